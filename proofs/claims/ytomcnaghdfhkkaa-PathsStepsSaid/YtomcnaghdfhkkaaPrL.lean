/- Paths: the program's firstHop and Path; the law of paths. Paths: the law of steps: the weight of a link, lists of numbers from a place on. -/
import Derived.Test.YtomcnaghdfhkkaaPrI
import Derived.Test.YtomcnaghdfhkkaaPrC
import Derived.Test.YtomcnaghdfhkkaaPrB
import Derived.Test.YtomcnaghdfhkkaaPtG
import Derived.Test.YtomcnaghdfhkkaaFl5
import Derived.Test.YtomcnaghdfhkkaaPqT
section
namespace Go.Proofs.Ytomcnaghdfhkkaa
open Go.RowKit Go.Lib Go.Fq Go.Pq Go.Iq Go.Nq Go.Ow
set_option linter.unusedVariables false
set_option linter.unusedSimpArgs false
set_option maxRecDepth 100000

/-- How far it is by each road. -/
def sumsF (c : List (Option Nat)) (lim : Nat) (R : List Rd) : List (Option Nat) := R.map (fun r => addO r.2 (g_ c r.1) lim)
theorem sumsF_take {c : List (Option Nat)} {lim : Nat} {R : List Rd} {k : Nat} (h : k < R.length) : dRow (sumsF c lim (R.take (k + 1))) = dRow (sumsF c lim (R.take k)) ++ [.float .f64 (dw (addO R[k].2 (g_ c R[k].1) lim))] := by
  rw [List.take_succ_eq_append_getElem h]
  unfold sumsF dRow
  rw [List.map_append, List.map_append]
  rfl
theorem sumsF_len (c : List (Option Nat)) (lim : Nat) (R : List Rd) : (sumsF c lim R).length = R.length := by unfold sumsF; simp
def fhI (c : List (Option Nat)) (lim : Nat) (R : List Rd) : Int := leastTo ((sumsF c lim R).map dw) R.length
def FhS (V : World) (bb lg tt A q : Nat) : Prop := V.cell? ⟨bb, 0, none⟩ = some (.int .i64 (tt : Int)) ∧ V.cell? ⟨bb, 1, none⟩ = some (.float .f64 q) ∧ V.cell? ⟨lg, tt, none⟩ = some (.float .f64 A)
set_option maxHeartbeats 16000000 in
theorem firstHop_any (nv : Value) (rows : List (List Rd)) (rv : Value) (at_ n lg lc lim : Nat) (c : List (Option Nat)) (w : World) (hnv : nv.oneCell' = true) (h1 : rv.oneCell' = true) (hrd : RdsIn w 0 w.heap.size rows rv) (hat : at_ < rows.length) (hne : 0 < (rows.getD at_ []).length) (hln : (rows.getD at_ []).length ≤ 8192) (hrl : rows.length ≤ 256)
    (hr : ∀ r ∈ rows.getD at_ [], r.1 < n ∧ 0 < r.2 ∧ r.2 ≤ 4294967296) (hl : lim ≤ 4294967296) (hsm : ∀ u, Sm (g_ c u)) (hcc : ∀ V, Below w.heap.size w V → ∀ i, i < n → V.cell? ⟨lg, i, none⟩ = some (.float .f64 (dw (g_ c i)))) (hn : n ≤ 256) :
    Calls Try.prog 38 #[.agg #[nv, rv], .int .i64 (at_ : Int), .slice (some ⟨lg, 0, none⟩) n lc, .float .f64 (qw lim)] w fun e w' => e = .returned (.int .i64 (((rows.getD at_ []).getD (fhI c lim (rows.getD at_ [])).toNat (0, 0)).1 : Int)) ∧ Below w.heap.size w w' := by
  have hst := g_storeL
  obtain ⟨W1, hW1⟩ : ∃ W1, W1 = w.alloc (.cells #[nv, rv] 63) := ⟨_, rfl⟩
  have b1 : Below w.heap.size w W1 := by rw [hW1]; exact gAl _ _
  have s1 : w.heap.size < W1.heap.size := by rw [hW1]; simp
  have r1 : W1.heap[w.heap.size]? = some (.cells #[nv, rv] 63 (0, 0)) := by rw [hW1]; exact heap_alloc_new w _
  obtain ⟨rb, rc, rfl, hrb, hrow⟩ := hrd
  have HB1 := Lib.hid b1
  have HKN : Hid (∀ V, Below W1.heap.size W1 V → V.cell? ⟨w.heap.size, 1, none⟩ = some (.slice (some ⟨rb, 0, none⟩) rows.length rc)) := Lib.hid (fun V hV => (two_cells ((hV.block _ s1).trans r1)).2.1)
  obtain ⟨ra, rcc, hra, hri⟩ := hrow at_ hat
  have e0 : rows.getD at_ [] = rows[at_] := by simp [List.getD_eq_getElem?_getD, hat]
  rw [e0] at hne hln hr ⊢
  generalize rows[at_] = R at *
  rcases hri with hri | ⟨kb, rfl, hkb, hkc⟩
  case inl => subst hri; simp at hne
  have HRA : Hid (∀ V, Below W1.heap.size W1 V → V.cell? ⟨rb, at_, none⟩ = some (.slice (some ⟨kb, 0, none⟩) R.length rcc)) := Lib.hid (fun V hV => ((gNx b1 hV).cell (p := ⟨rb, at_, none⟩) hrb.2).trans hra)
  have HRC : Hid (∀ V, Below W1.heap.size W1 V → ∀ k (hk : k < R.length), V.cell? ⟨kb, k * 2, none⟩ = some (.int .i64 (R[k].1 : Int)) ∧ V.cell? ⟨kb, k * 2 + 1, none⟩ = some (.float .f64 (qw R[k].2))) := Lib.hid (fun V hV k hk => ⟨((gNx b1 hV).cell (p := ⟨kb, k * 2, none⟩) hkb.2).trans (hkc k hk).1, ((gNx b1 hV).cell (p := ⟨kb, k * 2 + 1, none⟩) hkb.2).trans (hkc k hk).2⟩)
  have HCC : Hid (∀ V, Below W1.heap.size W1 V → ∀ i, i < n → V.cell? ⟨lg, i, none⟩ = some (.float .f64 (dw (g_ c i)))) := Lib.hid (fun V hV => hcc V (gNx b1 hV))
  have HSM := Lib.hid hsm
  have HL := Lib.hid hl
  have HR := Lib.hid hr
  have HNE := Lib.hid hne
  have HLN : Hid (R.length ≤ 8192 ∧ rows.length ≤ 256 ∧ n ≤ 256 ∧ at_ < rows.length) := Lib.hid ⟨hln, hrl, hn, hat⟩
  have m1 := HKN.out W1 (Below.refl _ _)
  have m2 := HRA.out W1 (Below.refl _ _)
  have ha1 : (at_ : Int) < (rows.length : Int) := by omega
  have ha0 : (0 : Int) ≤ (at_ : Int) := by omega
  clear b1 s1 r1 hrb hrow hra hkb hkc hcc hsm hl hr hne hln hrl hn e0 hnv
  clear hat h1
  generalize rows.length = rl at *
  go_enter Try.func38, Try.ntmps38
  go_upto_region 1 with (fail)
  rw [← hW1]
  clear hW1
  go_wp2_with fail
  clear m1 m2
  go_loopw [18, 9] (fun i v wr => ∃ k : Nat, i = .int .i64 (k : Int) ∧ k ≤ R.length ∧ Own wr W1.heap.size 26 1 v k (dRow (sumsF c lim (R.take k))) ∧ Below W1.heap.size W1 wr) (fun i _ _ => R.length - (RowKit.intOf i).toNat)
  case atStart => exact ⟨0, rfl, Nat.zero_le _, Or.inl ⟨rfl, rfl, none, rfl⟩, Below.refl _ _⟩
  case round =>
    obtain ⟨k, rfl, hk, ho, hbel⟩ := hrel
    obtain ⟨wo, hwo⟩ : ∃ wo, wo = wr := ⟨_, rfl⟩
    subst hwo
    have HBE := Lib.hid hbel
    by_cases hlt : k < R.length
    · have hlti : (k : Int) < (R.length : Int) := by omega
      have hk0 : (0 : Int) ≤ (k : Int) := by omega
      have hkw : IntKind.i64.wrap ((k : Int) + 1) = (k : Int) + 1 := by rw [IntKind.wrap_i64]; have := HLN.out.1; omega
      have HK1 : Hid (k + 1 ≤ R.length ∧ R.length - (k + 1) < R.length - k ∧ ((k : Int) + 1).toNat = k + 1 ∧ (k : Int) + 1 = ((k + 1 : Nat) : Int) ∧ k < 1048576) := Lib.hid ⟨by omega, by omega, by omega, by omega, by have := HLN.out.1; omega⟩
      obtain ⟨k0, k1⟩ := HRC.out wo hbel k hlt
      obtain ⟨r1, r2, r3⟩ := HR.out _ (List.getElem_mem hlt)
      have HSU := Lib.hid (sumsF_take (c := c) (lim := lim) hlt)
      have HOW := Lib.hid ho
      obtain ⟨al, cl, rfl⟩ := ho.slice
      clear ho hbel
      generalize R[k] = r at *
      obtain ⟨tt, q⟩ := r
      simp only at k0 k1 r1 r2 r3 HSU
      have HQ : Hid (0 < q ∧ q ≤ 4294967296 ∧ tt < n) := Lib.hid ⟨r2, r3, r1⟩
      obtain ⟨S, hS⟩ := dw_some q (g_ c tt) r3 (HSM.out tt) r2
      have HAD : Hid (∀ V, Calls Try.prog 63 #[.float .f64 (qw q), .float .f64 (dw (g_ c tt)), .float .f64 (qw lim)] V fun e w' => e = .returned (.float .f64 (dw (addO q (g_ c tt) lim))) ∧ V = w') := Lib.hid (fun V => by
        have h := add_some (qw q) (dw (g_ c tt)) (qw lim) S V hS
        rw [dw_add q (g_ c tt) lim HQ.out.2.1 (HSM.out tt) HL.out HQ.out.1] at h
        exact h)
      obtain ⟨bb, hbb⟩ : ∃ bb, bb = wo.heap.size := ⟨_, rfl⟩
      obtain ⟨W6, hW6⟩ : ∃ W6, W6 = wo.alloc (.cells #[.int .i64 (tt : Int), .float .f64 (qw q)] 112) := ⟨_, rfl⟩
      have b6 : Below wo.heap.size wo W6 := by rw [hW6]; exact gAl _ _
      have r6 : W6.heap[bb]? = some (.cells #[.int .i64 (tt : Int), .float .f64 (qw q)] 112 (0, 0)) := by rw [hW6, hbb]; exact heap_alloc_new wo _
      have s6 : bb < W6.heap.size := (Array.getElem?_eq_some_iff.1 r6).1
      have HSS : Hid (∀ V, Below W6.heap.size W6 V → FhS V bb lg tt (dw (g_ c tt)) (qw q)) := Lib.hid (fun V hV => by
        have h := two_cells ((hV.block bb s6).trans r6)
        exact ⟨h.1, h.2.1, HCC.out V (gNx HBE.out (gNx b6 hV)) tt HQ.out.2.2⟩)
      have HBX : Hid (bb = wo.heap.size ∧ bb < W6.heap.size) := Lib.hid ⟨hbb, s6⟩
      have HB6 := Lib.hid (gNx HBE.out b6)
      have HO6 := Lib.hid (HOW.out.below b6)
      have HCV : Hid (∀ V, Below W1.heap.size W1 V → V.cell? ⟨lg, tt, none⟩ = some (.float .f64 (dw (g_ c tt)))) := Lib.hid (fun V hV => HCC.out V hV tt HQ.out.2.2)
      have ht1 : (tt : Int) < (n : Int) := by omega
      have ht0 : (0 : Int) ≤ (tt : Int) := by omega
      clear r1 r2 r3 hS r6 s6 b6
      generalize dw (g_ c tt) = da at *
      generalize dw (addO q (g_ c tt) lim) = ds at *
      generalize qw q = dq at *
      go_upto_region 5 with (fail)
      rw [← hW6, ← hbb]
      clear hW6 hbb k0 k1
      refine wp_region_held_drew (S := fun V => FhS V bb lg tt da dq) (by kernel_rfl) (HSS.out _ (Below.drew (Below.refl _ _))) (fun hH => ?_)
      have hs0 := HSS.out _ (Below.drew (Below.refl _ _))
      have B0 : Hid (Below W6.heap.size W6 W6.drew) := Lib.hid (Below.drew (Below.refl _ _))
      generalize W6.drew = V0 at *
      refine tk 0 (by assumption) rfl (by kernel_rfl) (fun _ _ _ h => h) (fun V hV => by go_simp; try with_reducible rfl) ?_
      try simp only [Act.put, List.setIfInBounds_toArray, List.set_cons_zero, List.set_cons_succ, List.getElem_toArray, List.getElem_cons_succ, List.getElem_cons_zero]
      refine tk 1 (by assumption) rfl (by kernel_rfl) (fun _ _ _ h => h) (fun V hV => by go_simp; try with_reducible rfl) ?_
      try simp only [Act.put, List.setIfInBounds_toArray, List.set_cons_zero, List.set_cons_succ, List.getElem_toArray, List.getElem_cons_succ, List.getElem_cons_zero]
      refine tk 2 (by assumption) rfl (by kernel_rfl) (fun _ _ _ h => h) (fun V hV => by obtain ⟨hx0, hx1, hx2⟩ := hV; go_simp; try with_reducible rfl) ?_
      try simp only [Act.put, List.setIfInBounds_toArray, List.set_cons_zero, List.set_cons_succ, List.getElem_toArray, List.getElem_cons_succ, List.getElem_cons_zero]
      refine tk 3 (by assumption) rfl (by kernel_rfl) (fun _ _ _ h => h) (fun V hV => by go_simp; try with_reducible rfl) ?_
      try simp only [Act.put, List.setIfInBounds_toArray, List.set_cons_zero, List.set_cons_succ, List.getElem_toArray, List.getElem_cons_succ, List.getElem_cons_zero]
      refine tk 4 (by assumption) rfl (by kernel_rfl) (fun _ _ _ h => h) (fun V hV => by go_simp; try with_reducible rfl) ?_
      try simp only [Act.put, List.setIfInBounds_toArray, List.set_cons_zero, List.set_cons_succ, List.getElem_toArray, List.getElem_cons_succ, List.getElem_cons_zero]
      refine tk 5 (by assumption) rfl (by kernel_rfl) (fun _ _ _ h => h) (fun V hV => by obtain ⟨hx0, hx1, hx2⟩ := hV; go_simp; try with_reducible rfl) ?_
      try simp only [Act.put, List.setIfInBounds_toArray, List.set_cons_zero, List.set_cons_succ, List.getElem_toArray, List.getElem_cons_succ, List.getElem_cons_zero]
      refine tk 6 (by assumption) rfl (by kernel_rfl) (fun _ _ _ h => h) (fun V hV => by go_simp; try with_reducible rfl) ?_
      try simp only [Act.put, List.setIfInBounds_toArray, List.set_cons_zero, List.set_cons_succ, List.getElem_toArray, List.getElem_cons_succ, List.getElem_cons_zero]
      refine tk 7 (by assumption) rfl (by kernel_rfl) (fun _ _ _ h => h) (fun V hV => by obtain ⟨hx0, hx1, hx2⟩ := hV; go_simp; try with_reducible rfl) ?_
      try simp only [Act.put, List.setIfInBounds_toArray, List.set_cons_zero, List.set_cons_succ, List.getElem_toArray, List.getElem_cons_succ, List.getElem_cons_zero]
      refine tk 8 (by assumption) rfl (by kernel_rfl) (fun _ _ _ h => h) (fun V hV => by go_simp; try with_reducible rfl) ?_
      try simp only [Act.put, List.setIfInBounds_toArray, List.set_cons_zero, List.set_cons_succ, List.getElem_toArray, List.getElem_cons_succ, List.getElem_cons_zero]
      refine wpAnyH_ready (rs := [9]) (by kernel_rfl) (by simp) ?_
      refine AllReadyH.cons (o := _) rfl (fun K hK => ?_) AllReadyH.nil
      go_simp
      refine (HAD.out V0).mono ?_
      rintro e w' ⟨rfl, rfl⟩
      go_wp2_with fail
      refine hK.out _ _ hs0 (fun hH => ?_)
      clear hK K
      try simp only [Act.put, List.setIfInBounds_toArray, List.set_cons_zero, List.set_cons_succ, List.getElem_toArray, List.getElem_cons_succ, List.getElem_cons_zero]
      refine wpAnyH_ready (rs := [10]) (by kernel_rfl) (by simp) ?_
      refine AllReadyH.cons (o := _) rfl (fun K hK => ?_) AllReadyH.nil
      go_simp
      obtain ⟨V3, hV3⟩ : ∃ V3, V3 = V0.alloc (.cells #[.float .f64 ds] 26) := ⟨_, rfl⟩
      rw [← hV3]
      have B3 : Hid (Below W6.heap.size W6 V3) := Lib.hid (by rw [hV3]; exact gNx B0.out (gAl _ _))
      have HV3 : Hid (V3.heap[V0.heap.size]? = some (.cells #[.float .f64 ds] 26 (0, 0))) := Lib.hid (by rw [hV3]; exact heap_alloc_new V0 _)
      clear hV3
      refine hK.out _ _ (HSS.out _ B3.out) (fun hH => ?_)
      clear hK K
      try simp only [Act.put, List.setIfInBounds_toArray, List.set_cons_zero, List.set_cons_succ, List.getElem_toArray, List.getElem_cons_succ, List.getElem_cons_zero]
      refine wpAnyH_ready (rs := [11]) (by kernel_rfl) (by simp) ?_
      refine AllReadyH.cons (o := _) rfl (fun K hK => ?_) AllReadyH.nil
      have hbase : W1.heap.size ≤ V3.heap.size := (gNx HB6.out B3.out).size
      obtain ⟨v2, W2, hrun, hrow, hkq⟩ := own_app (P := Try.prog) (vb := V0.heap.size) (vs := [.float .f64 ds]) Try.underlying50 flInfo rfl (HO6.out.below B3.out) hbase HV3.out rfl (by intro v hv; rw [List.mem_singleton] at hv; rw [hv]; rfl) (by have := HK1.out.2.2.2.2; omega) (by have := HK1.out.2.2.2.2; omega)
      obtain ⟨va2, vc2, rfl⟩ := hrow.slice
      have HRW : Hid (Own W2 W1.heap.size 26 1 (.slice va2 (k + 1) vc2) (k + 1) (dRow (sumsF c lim (R.take (k + 1))))) := Lib.hid (by rw [HSU.out]; exact hrow)
      have HKQ := Lib.hid (Kq.below2 hkq (HO6.out.below B3.out) hbase)
      have HBB : Hid (Below W1.heap.size W1 W2) := Lib.hid ((gNx HB6.out B3.out).trans HKQ.out)
      have HR2 := Lib.hid hrun
      have HS2 : Hid (FhS W2 bb lg tt da dq) := Lib.hid (by
        have hbk : W2.heap[bb]? = V3.heap[bb]? := (hkq (bb + 1)).block bb (Nat.lt_of_lt_of_le HBX.out.2 B3.out.size) (by omega) (fun n' c' e => by
          rcases HOW.out with ⟨-, -, a, h⟩ | ⟨g, cap, cur, h, -, hg, -⟩
          · have := h.symm.trans e
            simp only [Value.slice.injEq] at this
            omega
          · have := h.symm.trans e
            simp only [Value.slice.injEq, Option.some.injEq, Addr.mk.injEq, and_true, true_and] at this
            have hlt := (Array.getElem?_eq_some_iff.1 hg).1
            have := HBX.out.1
            omega)
        have h3 := HSS.out _ B3.out
        exact ⟨(World.cell?_of_block hbk).trans h3.1, (World.cell?_of_block hbk).trans h3.2.1, HCV.out W2 HBB.out⟩)
      clear hrun hrow hkq hbase
      refine step_append_r rfl _ _ 50 50 rfl (.slice al k cl) (.slice (some ⟨V0.heap.size, 0, none⟩) 1 1) (by simp [Act.eval, Act.put]) (by simp [Act.eval, Act.put]) (HR2.out _) ?_
      refine hK.out _ _ HS2.out (fun hH => ?_)
      clear hK K HR2
      try simp only [Act.put, List.setIfInBounds_toArray, List.set_cons_zero, List.set_cons_succ, List.getElem_toArray, List.getElem_cons_succ, List.getElem_cons_zero]
      refine tk 12 (by assumption) rfl (by kernel_rfl) (fun _ _ _ h => h) (fun V hV => by go_simp; try with_reducible rfl) ?_
      try simp only [Act.put, List.setIfInBounds_toArray, List.set_cons_zero, List.set_cons_succ, List.getElem_toArray, List.getElem_cons_succ, List.getElem_cons_zero]
      refine wpAnyH_done (by kernel_rfl) ?_ _
      go_wp2_with fail
      refine ⟨⟨k + 1, congrArg (Value.int .i64) HK1.out.2.2.2.1, HK1.out.1, HRW.out, HBB.out⟩, ?_⟩
      show R.length - ((k : Int) + 1).toNat < R.length - (k : Int).toNat
      rw [HK1.out.2.2.1]
      exact HK1.out.2.1
    · have hnk : ¬ (k : Int) < (R.length : Int) := by omega
      have hke : k = R.length := by omega
      rw [hke] at ho
      rw [List.take_length] at ho
      obtain ⟨g, cap, rfl, hcells⟩ := own1_cell ho HNE.out
      obtain ⟨l2, l3, l4⟩ := leastTo_bd ((sumsF c lim R).map dw) R.length
      obtain ⟨M, hM⟩ := Int.eq_ofNat_of_zero_le (l4 HNE.out)
      have hML : M < R.length := by omega
      have HLQ : Hid (∀ q, Calls Try.prog 64 #[.slice (some ⟨g, 0, none⟩) R.length cap] (wo.drewN q) fun e w' => e = .returned (.int .i64 (M : Int)) ∧ w' = wo.drewN q) := Lib.hid (fun q => by
        have h := least_row g 0 R.length cap ((sumsF c lim R).map dw) (wo.drewN q) (by have := HLN.out.1; omega) (fun i hi => by
          have h1 := hcells i hi _ (dRow_at (by rw [sumsF_len]; exact hi))
          have e : ((sumsF c lim R).map dw).getD i 0 = dw (g_ (sumsF c lim R) i) := by
            have hi2 : i < (sumsF c lim R).length := by rw [sumsF_len]; exact hi
            unfold g_
            simp [List.getD_eq_getElem?_getD, hi2]
          rw [e, Nat.zero_add]
          simpa using h1)
        rw [hM] at h
        exact h.mono (fun _ _ hh => ⟨hh.1, hh.2.symm⟩))
      have HFI : Hid (((R.getD (fhI c lim R).toNat (0, 0)).1 : Int) = (R[M].1 : Int)) := Lib.hid (by
        unfold fhI
        rw [hM]
        simp [List.getD_eq_getElem?_getD, hML])
      obtain ⟨q0, -⟩ := HRC.out wo HBE.out M hML
      have m1 := HKN.out wo HBE.out
      have m2 := HRA.out wo HBE.out
      have hmi : (M : Int) < (R.length : Int) := by omega
      have hm0 : (0 : Int) ≤ (M : Int) := by omega
      have HBW := Lib.hid (gNx HB1.out HBE.out)
      clear hbel hke hlt hk ho hcells l2 l3 l4 hM
      generalize (R[M].1 : Int) = res at *
      clear hML
      go_upto_region 7 with (fail)
      go_quiet ((go_at_call 64; exact Calls.quiet_of_same (HLQ.out _)))
      go_wp2_with fail
      refine bodyPost_ret (v := .int .i64 res) (by simp [results, Try.results38, go_sem]) rfl ?_
      have hfi := HFI.out
      rw [List.getD_eq_getElem?_getD] at hfi
      exact ⟨by rw [hfi], Go.Iq.below_drewN HBW.out _⟩
end Go.Proofs.Ytomcnaghdfhkkaa

namespace Go.Proofs.Ytomcnaghdfhkkaa
open Go.RowKit Go.Lib Go.Fq Go.Pq Go.Iq Go.Nq Go.Ow
set_option linter.unusedVariables false
set_option linter.unusedSimpArgs false
set_option maxRecDepth 100000

set_option maxHeartbeats 16000000 in
theorem pPath_any (G : Gr) (na : Option Addr) (nc : Nat) (la : Option Addr) (lc : Nat) (max : Nat) (fr tz : Int) (w : World) (hin : GrIn w G na la) (hm : max < 2 ^ 64) :
    Calls Try.prog 14 #[.agg #[.slice na G.nodes.length nc, .slice la G.links.length lc], .float .f64 max, .int .i64 fr, .int .i64 tz] w fun e w' => PathEnds w G (askE G max [fr, tz]) (Nq.ahead G.nodes fr) (Nq.ahead G.nodes tz) (qn max) e w' := by
  have hst := g_storeL
  obtain ⟨W1, hW1⟩ : ∃ W1, W1 = w.alloc (.cells #[.slice na G.nodes.length nc, .slice la G.links.length lc] 25) := ⟨_, rfl⟩
  have b1 : Below w.heap.size w W1 := by rw [hW1]; exact gAl _ _
  have r1 : W1.heap[w.heap.size]? = some (.cells #[.slice na G.nodes.length nc, .slice la G.links.length lc] 25 (0, 0)) := by rw [hW1]; exact heap_alloc_new w _
  obtain ⟨g0, g1, -, -⟩ := two_cells r1
  obtain ⟨W2, hW2⟩ : ∃ W2, W2 = W1.alloc (.cells #[.int .i64 fr, .int .i64 tz] 3) := ⟨_, rfl⟩
  have b2 : Below W1.heap.size W1 W2 := by rw [hW2]; exact gAl _ _
  have r2 : W2.heap[W1.heap.size]? = some (.cells #[.int .i64 fr, .int .i64 tz] 3 (0, 0)) := by rw [hW2]; exact heap_alloc_new W1 _
  have HB2 : Hid (Below w.heap.size w W2) := Lib.hid (gNx b1 b2)
  have HG : Hid (∀ V, Below w.heap.size w V → GrIn V G na la) := Lib.hid (fun V hV => hin.below hV)
  have hii : IsInts W2 (some ⟨W1.heap.size, 0, none⟩) [fr, tz].length [fr, tz] := ⟨rfl, fun _ => ⟨_, _, rfl, fun i hi => by
    have : i = 0 ∨ i = 1 := by simp only [List.length_cons, List.length_nil] at hi; omega
    rcases this with rfl | rfl
    · rw [cell_of_row W2 _ _ _ _ (0, 0) r2]; rfl
    · rw [cell_of_row W2 _ _ _ _ (0, 0) r2]; rfl⟩⟩
  have HNF := Lib.hid (netFor_any G na nc la lc max (some ⟨W1.heap.size, 0, none⟩) 2 [fr, tz] W2 (hin.below (gNx b1 b2)) hm hii (by simp))
  simp only [List.length_cons, List.length_nil] at HNF
  have HM := Lib.hid hm
  have HWT := Lib.hid hin.wts
  clear hin b1 r1 b2 r2 hii hm
  go_enter Try.func14, Try.ntmps14
  go_upto_region 1 with (fail)
  rw [← hW1]
  clear hW1
  go_wp2_with fail
  rw [← hW2]
  clear hW2
  refine HNF.out.mono ?_
  rintro e w3 (⟨hne, rfl, hb3⟩ | ⟨hE, rb, rc, rfl, hrd, hb3⟩)
  · have HNE := Lib.hid hne
    have HB3 := Lib.hid (gNx HB2.out hb3)
    obtain ⟨E, hEE⟩ : ∃ E, E = askE G max [fr, tz] := ⟨_, rfl⟩
    have HEE := Lib.hid hEE
    rw [← hEE] at hne HNE ⊢
    have hz2 : (E != 0) = true := by simpa using hne
    clear hne hb3 g0 g1 hEE
    go_wp2_with fail
    refine bodyPost_ret (v := .tuple #[.slice none 0 0, .float .f64 0, .int .i64 E]) (by simp [results, Try.results14, go_sem]) rfl ?_
    rw [← HEE.out]
    exact Or.inl ⟨HNE.out, rfl, gNx HB3.out (gAl _ _)⟩
  · obtain ⟨a1, a2, a3⟩ := askE_zero hE
    have HE := Lib.hid hE
    have HZ := Lib.hid a2
    have hh : has G.nodes fr = true ∧ has G.nodes tz = true := by simpa using a3
    obtain ⟨lim, l1, l2, l3⟩ := limit_q max HM.out a1
    subst l3
    have HQ : Hid (qn (qw lim) = lim) := Lib.hid (qn_qw (by omega))
    have HLIM : Hid (0 < lim ∧ lim ≤ 4294967296) := Lib.hid ⟨by omega, l2⟩
    obtain ⟨n1, n2, n3, n4⟩ := check_zero.1 a2
    have HNP := Lib.hid n3
    have HNL : Hid (G.nodes.length ≤ 256 ∧ G.links.length ≤ 4096) := Lib.hid ⟨n1, n2⟩
    have HPL : Hid (Nq.ahead G.nodes fr < G.nodes.length) := Lib.hid ((has_at n3 fr).1 hh.1).1
    have HPT : Hid (Nq.ahead G.nodes tz < G.nodes.length) := Lib.hid ((has_at n3 tz).1 hh.2).1
    have HH := Lib.hid hh
    have HFI : Hid ((idf G.nodes (Nq.ahead G.nodes fr) : Int) = fr) := Lib.hid (id_at n3 hh.1).1
    have HRD := Lib.hid hrd
    have HB3 : Hid (Below w.heap.size w w3) := Lib.hid (gNx HB2.out hb3)
    clear a1 a2 a3 l1 l2 hE hrd hb3 hh g0 g1 HNF n1 n2 n3 n4
    obtain ⟨W4, hW4⟩ : ∃ W4, W4 = w3.alloc (.cells #[.slice na G.nodes.length nc, .slice (some ⟨rb, 0, none⟩) G.nodes.length rc] 63) := ⟨_, rfl⟩
    have hb4 : Below w3.heap.size w3 W4 := by rw [hW4]; exact gAl _ _
    have r4 : W4.heap[w3.heap.size]? = some (.cells #[.slice na G.nodes.length nc, .slice (some ⟨rb, 0, none⟩) G.nodes.length rc] 63 (0, 0)) := by rw [hW4]; exact heap_alloc_new w3 _
    obtain ⟨nb, hnb⟩ : ∃ nb, nb = w3.heap.size := ⟨_, rfl⟩
    rw [← hnb] at r4
    have hs4 : nb < W4.heap.size := (Array.getElem?_eq_some_iff.1 r4).1
    have HNB : Hid (∀ V, Below W4.heap.size W4 V → V.cell? ⟨nb, 0, none⟩ = some (.slice na G.nodes.length nc) ∧ V.cell? ⟨nb, 1, none⟩ = some (.slice (some ⟨rb, 0, none⟩) G.nodes.length rc)) := Lib.hid (fun V hV => by
      have := two_cells ((hV.block nb hs4).trans r4)
      exact ⟨this.1, this.2.1⟩)
    have HB4 : Hid (Below w.heap.size w W4) := Lib.hid (gNx HB3.out hb4)
    have HRD4 : Hid (∀ V, Below W4.heap.size W4 V → RdsIn V 0 V.heap.size (netL G.nodes (liveG G).links) (.slice (some ⟨rb, 0, none⟩) G.nodes.length rc)) := Lib.hid (fun V hV => ((HRD.out.below hb4).below hV).low (Nat.zero_le _))
    go_upto_region 4 with (fail)
    rw [← hW4, ← hnb]
    clear hW4 hnb hb4 r4 hs4
    obtain ⟨m0, m1⟩ := HNB.out W4 (Below.refl _ _)
    go_wp2_with fail
    refine (pPlace_any G.nodes na nc (.slice (some ⟨rb, 0, none⟩) G.nodes.length rc) fr W4 (HG.out W4 HB4.out).nodes HNP.out (by have := HNL.out; omega) rfl).mono ?_
    rintro e w5 ⟨rfl, hb5⟩
    rw [HH.out.1]
    have HB5 := Lib.hid hb5
    clear hb5 m0 m1
    obtain ⟨m0, m1⟩ := HNB.out w5 HB5.out
    obtain ⟨s, hsE⟩ : ∃ s, s = Nq.ahead G.nodes fr := ⟨_, rfl⟩
    have HSE := Lib.hid hsE
    rw [← hsE] at HPL HFI ⊢
    clear hsE
    go_wp2_with fail
    refine (pPlace_any G.nodes na nc (.slice (some ⟨rb, 0, none⟩) G.nodes.length rc) tz w5 (HG.out w5 (gNx HB4.out HB5.out)).nodes HNP.out (by have := HNL.out; omega) rfl).mono ?_
    rintro e w6 ⟨rfl, hb6⟩
    rw [HH.out.2]
    have HB6 := Lib.hid (gNx HB5.out hb6)
    clear hb6 m0 m1
    obtain ⟨m0, m1⟩ := HNB.out w6 HB6.out
    obtain ⟨t, htE⟩ : ∃ t, t = Nq.ahead G.nodes tz := ⟨_, rfl⟩
    have HTE := Lib.hid htE
    rw [← htE] at HPT ⊢
    clear htE
    obtain ⟨W6, hW6⟩ : ∃ W6, W6 = w6.alloc (.cells #[.slice none 0 0] 83) := ⟨_, rfl⟩
    have hb6 : Below w6.heap.size w6 W6 := by rw [hW6]; exact gAl _ _
    have HBW6 : Hid (Below W4.heap.size W4 W6) := Lib.hid (gNx HB6.out hb6)
    have HWK := Lib.hid (walk_any G na nc (.slice (some ⟨rb, 0, none⟩) G.nodes.length rc) t lim w6.heap.size W6 HZ.out HWT.out rfl ((HG.out w6 (gNx HB4.out HB6.out)).nodes.kept (fun i hi => hb6.block i hi) (Nat.le_refl _)) ((HRD4.out w6 HB6.out).kept (fun i _ hi => hb6.block i hi) (Nat.le_refl _) (Nat.le_refl _)) HPT.out HLIM.out.1 HLIM.out.2 (by rw [hW6]; exact heap_alloc_new w6 _))
    have HQS : Hid (W4.heap.size ≤ w6.heap.size ∧ w6.heap.size < W6.heap.size) := Lib.hid ⟨HB6.out.size, by rw [hW6]; simp⟩
    clear hb6
    go_wp2_with fail
    rw [← hW6]
    clear hW6
    refine HWK.out.mono ?_
    rintro e w7 ⟨D, sb, rfl, ho, hbx, hsp⟩
    have HB7 : Hid (Below W4.heap.size W4 w7) := Lib.hid (HBW6.out.trans (hbx.below (Nat.le_of_lt (Nat.lt_of_le_of_lt HQS.out.1 HQS.out.2)) HQS.out.1))
    have HDF := Lib.hid (distsOf_any G.nodes.length sb _ D w7 ho hsp.1 HNL.out.1)
    have HDP := Lib.hid hsp.dists
    clear ho hbx hsp m0 m1 HWK
    go_wp2_with fail
    refine HDF.out.mono ?_
    rintro e w8 ⟨lg, rfl, ho8, hb8⟩
    have HB8 := Lib.hid (gNx HB7.out hb8)
    obtain ⟨c, hc⟩ : ∃ c, c = dOf D := ⟨_, rfl⟩
    rw [← hc] at ho8 HDP
    obtain ⟨lg', dc, hve, hcc⟩ := row_cells2 ho8 HDP.out.1 (by have := HPL.out; omega)
    simp only [Value.slice.injEq, Option.some.injEq, Addr.mk.injEq, and_true, true_and] at hve
    obtain ⟨rfl, -⟩ := hve
    have HCC := Lib.hid hcc
    have HSM : Hid (∀ u, Sm (g_ c u)) := Lib.hid (fun u => HDP.out.sm HLIM.out.2 u)
    clear hb8 ho8 hcc hc HDF
    have c8 := HCC.out w8 (Below.refl _ _) s HPL.out
    have hsl : (s : Int) < (G.nodes.length : Int) := by have := HPL.out; omega
    have hs00 : (0 : Int) ≤ (s : Int) := by omega
    have HBW8 : Hid (Below w.heap.size w w8) := Lib.hid (gNx HB4.out HB8.out)
    cases hq : g_ c s with
    | none =>
      have HIF := Lib.hid (fun V => tooFar_any (g_ c s) (HSM.out s) V)
      rw [hq] at c8 HIF
      have HQ2 := Lib.hid hq
      clear hq
      obtain ⟨d, hd⟩ : ∃ d, d = dw none := ⟨_, rfl⟩
      have HD := Lib.hid hd
      rw [← hd] at c8 HIF
      clear hd
      go_wp2_with (go_at_call 28; refine (HIF.out _).mono ?_; rintro e w' ⟨rfl, rfl⟩)
      refine bodyPost_ret (v := .tuple #[.slice none 0 0, .float .f64 d, .int .i64 0]) (by simp [results, Try.results14, go_sem]) rfl ?_
      rw [← HSE.out, ← HTE.out, HQ.out]
      exact Or.inr ⟨HE.out, c, HDP.out, HBW8.out, Or.inl ⟨HQ2.out, by rw [HD.out]⟩⟩
    | some n =>
      have HIF := Lib.hid (fun V => tooFar_any (g_ c s) (HSM.out s) V)
      have HN : Hid (n ≤ 4294967296) := Lib.hid (by have := HSM.out s; rw [hq] at this; exact this)
      rw [hq] at c8 HIF
      have HQ2 := Lib.hid hq
      clear hq
      obtain ⟨d, hd⟩ : ∃ d, d = dw (some n) := ⟨_, rfl⟩
      have HD := Lib.hid hd
      rw [← hd] at c8 HIF
      clear hd
      obtain ⟨W9, hW9⟩ : ∃ W9, W9 = w8.alloc (.cells #[.int .i64 fr] 3) := ⟨_, rfl⟩
      have B9 : Hid (Below w8.heap.size w8 W9) := Lib.hid (by rw [hW9]; exact gAl _ _)
      have HO9 : Hid (Own W9 w8.heap.size 3 1 (.slice (some ⟨w8.heap.size, 0, none⟩) 1 1) [fr].length (iRow [fr])) := Lib.hid (by
        have := own_fE w8 (fun _ => .int .i64 fr) (.int .i64 fr) 3 1 (by omega)
        rw [hW9]
        exact this)
      obtain ⟨ob, hob⟩ : ∃ ob, ob = w8.heap.size := ⟨_, rfl⟩
      have HOB := Lib.hid hob
      obtain ⟨FULL, hfull⟩ : ∃ FULL, FULL = (idf G.nodes s : Int) :: pathL G t c (n + 1) s := ⟨_, rfl⟩
      have HFU := Lib.hid hfull
      have HFL : Hid (FULL.length ≤ 4294967298) := Lib.hid (by rw [hfull]; have := pathL_len G t c (n + 1) s; have := HN.out; simp only [List.length_cons]; omega)
      go_upto_region 11 with (go_at_call 28; refine (HIF.out _).mono ?_; rintro e w' ⟨rfl, rfl⟩)
      rw [← hW9]
      rw [← hob] at HO9 ⊢
      clear hW9 c8 HIF hsl hs00 hob hfull
      go_wp2_with fail
      go_loopw [13, 19] (fun at_ v wr => ∃ u f m : Nat, ∃ zs : List Int, at_ = .int .i64 (u : Int) ∧ u < G.nodes.length ∧ g_ c u = some m ∧ m < f ∧ zs ++ pathL G t c f u = FULL ∧ Own wr ob 3 1 v zs.length (iRow zs) ∧ Below w8.heap.size w8 wr) (fun at_ _ _ => (g_ c (RowKit.intOf at_).toNat).getD 0)
      case atStart => exact ⟨s, n + 1, n, [fr], rfl, HPL.out, HQ2.out, by omega, by rw [HFU.out, HFI.out]; rfl, HO9.out, B9.out⟩
      case round =>
        obtain ⟨u, f, m, zs, rfl, hu, hmm, hmf, hful, ho, hbel⟩ := hrel
        have HBE := Lib.hid hbel
        have HB9 := Lib.hid (gNx HB8.out hbel)
        by_cases hut : u = t
        · have e0 : ((u : Int) != (t : Int)) = false := by rw [hut]; simp
          rw [hut, pathL_end, List.append_nil] at hful
          have HOW : Hid (Own wr w.heap.size 3 1 u19 FULL.length (iRow FULL)) := Lib.hid (by rw [← hful]; exact ho.mono (by have := HOB.out; have := HBW8.out.size; omega))
          have HBW := Lib.hid (gNx HBW8.out HBE.out)
          clear hut hful ho hbel hmm hmf hu
          go_wp2_with fail
          refine bodyPost_ret (v := .tuple #[u19, .float .f64 d, .int .i64 0]) (by simp [results, Try.results14, go_sem]) rfl ?_
          rw [← HSE.out, ← HTE.out, HQ.out]
          exact Or.inr ⟨HE.out, c, HDP.out, HBW.out, Or.inr ⟨n, u19, HQ2.out, by rw [HD.out], by rw [← HFU.out]; exact HOW.out⟩⟩
        · have e0 : ((u : Int) != (t : Int)) = true := by simp; omega
          obtain ⟨a, m', f', p1, p2, p3, p4, p5, p6⟩ := pathL_step HZ.out HWT.out HDP.out hu hmm hut hmf
          obtain ⟨M, hM, q1, q2⟩ := fh_best HZ.out HWT.out HDP.out HLIM.out.2 hu hmm hut
          rw [p1] at q2
          have hR : (netL G.nodes (liveG G).links).getD u [] = rds G.nodes (liveG G).links u := netL_at _ hu
          have hto : ((((netL G.nodes (liveG G).links).getD u []).getD (fhI c lim ((netL G.nodes (liveG G).links).getD u [])).toNat (0, 0)).1 : Int) = (a : Int) := by
            rw [hR]
            unfold fhI sumsF
            rw [q1]
            simp only [Int.toNat_natCast, List.getD_eq_getElem?_getD, List.getElem?_eq_getElem hM, Option.getD_some]
            have hrl : (rds G.nodes (liveG G).links u)[M].1 < G.nodes.length := (road_bd HZ.out HWT.out (show Pq.Road G u _ _ from List.getElem_mem hM)).2.1
            have z1 := (aheadOf HNP.out hrl).2
            have z2 := (aheadOf HNP.out p2).2
            rw [q2] at z1
            rw [← z1, z2]
          have HFH : Hid (Calls Try.prog 38 #[.agg #[.slice na G.nodes.length nc, .slice (some ⟨rb, 0, none⟩) G.nodes.length rc], .int .i64 (u : Int), .slice (some ⟨lg, 0, none⟩) G.nodes.length G.nodes.length, .float .f64 (qw lim)] wr fun e w' => e = .returned (.int .i64 (a : Int)) ∧ Below wr.heap.size wr w') := Lib.hid (by
            have h := firstHop_any (.slice na G.nodes.length nc) (netL G.nodes (liveG G).links) (.slice (some ⟨rb, 0, none⟩) G.nodes.length rc) u G.nodes.length lg G.nodes.length lim c wr rfl rfl (HRD4.out wr HB9.out) (by rw [netL_len]; exact hu) (by rw [hR]; omega) (by have := deg_one G.nodes (liveG G).links u; have h2 : (liveG G).links.length ≤ G.links.length := List.length_filter_le _ _; have := HNL.out.2; omega) (by rw [netL_len]; exact HNL.out.1) (fun r hr => by rw [hR] at hr; have := road_bd HZ.out HWT.out (show Pq.Road G u r.1 r.2 from hr); omega) HLIM.out.2 HSM.out (fun V hV => HCC.out V (gNx HBE.out hV)) HNL.out.1
            rw [hto] at h
            exact h)
          rw [p6] at hful
          have hzl : zs.length ≤ 4294967298 := by
            have := congrArg List.length hful
            have := HFL.out
            simp only [List.length_append, List.length_cons] at *
            omega
          have HZL := Lib.hid hzl
          have HOW := Lib.hid ho
          have HNEW : Hid (a < G.nodes.length ∧ g_ c a = some m' ∧ m' < f' ∧ (zs ++ [(idf G.nodes a : Int)]) ++ pathL G t c f' a = FULL ∧ m' < m) := Lib.hid ⟨p2, p3, p5, by rw [← hful]; simp, p4⟩
          have HME : Hid ((g_ c u).getD 0 = m ∧ (g_ c a).getD 0 = m') := Lib.hid ⟨by rw [hmm]; rfl, by rw [p3]; rfl⟩
          obtain ⟨al, cl, rfl⟩ := ho.slice
          obtain ⟨m0, m1⟩ := HNB.out wr HB9.out
          have hai : (a : Int) < (G.nodes.length : Int) := by omega
          have ha0 : (0 : Int) ≤ (a : Int) := by omega
          clear hut hful ho hbel hmm hmf hu p1 p3 p4 p5 p6 hzl q1 q2 hR hto hM
          go_wp2_with fail
          refine HFH.out.mono ?_
          rintro e w10 ⟨rfl, hb10⟩
          have HB10 := Lib.hid (gNx HB9.out hb10)
          clear m0 m1
          obtain ⟨m0, m1⟩ := HNB.out w10 HB10.out
          obtain ⟨b, o, hna, hbb, hcn⟩ := (HG.out w10 (gNx HB4.out HB10.out)).nodes.at a p2
          obtain ⟨ni, -⟩ := hcn a p2
          rw [(idf_is HNP.out p2).1] at ni
          obtain ⟨y, hy⟩ : ∃ y, y = (idf G.nodes a : Int) := ⟨_, rfl⟩
          rw [← hy] at ni HNEW
          obtain ⟨W8, hW8⟩ : ∃ W8, W8 = w10.alloc (.cells #[.int .i64 y] 3) := ⟨_, rfl⟩
          have b8 : Below w10.heap.size w10 W8 := by rw [hW8]; exact gAl _ _
          have r8 : W8.heap[w10.heap.size]? = some (.cells #[.int .i64 y] 3 (0, 0)) := by rw [hW8]; exact heap_alloc_new w10 _
          have b78 := gNx hb10 b8
          have hbase : ob ≤ W8.heap.size := by have := HOB.out; have := (gNx HBE.out b78).size; omega
          obtain ⟨v2, Wn, hrun, hrow, hkq⟩ := own_app (P := Try.prog) (vb := w10.heap.size) (vs := [.int .i64 y]) Try.underlying36 inInfo rfl (HOW.out.below b78) hbase r8 rfl (by intro v hv; rw [List.mem_singleton] at hv; rw [hv]; rfl) (by have := HZL.out; omega) (by have := HZL.out; omega)
          obtain ⟨va2, vc2, rfl⟩ := hrow.slice
          have HRW : Hid (Own Wn ob 3 1 (.slice va2 (zs.length + 1) vc2) (zs ++ [y]).length (iRow (zs ++ [y]))) := Lib.hid (by rw [iRow_snoc, List.length_append]; exact hrow)
          have HBB : Hid (Below w8.heap.size w8 Wn) := Lib.hid ((gNx HBE.out b78).trans (by have h := Kq.below2 hkq (HOW.out.below b78) hbase; rw [HOB.out] at h; exact h))
          rw [hW8] at hrun
          have HR := Lib.hid hrun
          clear hrun hrow hkq hbase b8 r8 b78 hb10 hW8 e0 hcn hbb hy
          generalize zs.length = zl at *
          subst hna
          go_wp2_with (at_builtin; refine Lib.wpList_append_run _ rfl _ _ _ _ rfl _ _ rfl rfl _ _ (HR.out _) ?_)
          refine ⟨⟨a, f', m', zs ++ [y], rfl, HNEW.out.1, HNEW.out.2.1, HNEW.out.2.2.1, HNEW.out.2.2.2.1, HRW.out, HBB.out⟩, ?_⟩
          show (g_ c ((a : Int).toNat)).getD 0 < (g_ c ((u : Int).toNat)).getD 0
          rw [Int.toNat_natCast, Int.toNat_natCast, HME.out.1, HME.out.2]
          exact HNEW.out.2.2.2.2
section
variable {H : Type} {enc : TypeId × Value → H} {w W : World} {spare : Nat → Bool} {held : Bool} {r : Reach} {b0 : Nat}
theorem gin_i642 {v : Value} {d : DataW H} {ps : List MemPlace} (hv : Value.okWide Try.prog W r b0 39 v) (h : DataW.Trod enc Try.prog w 0 spare held 39 v d ps) : ∃ x y : Int, v = .agg #[.int .i64 x, .int .i64 y] ∧ True ∧ True := by
  unfold Value.okWide at hv
  rw [Try.underlying39] at hv
  obtain ⟨cs, rfl, hcs, -⟩ := hv
  obtain ⟨fuel, hf⟩ := h
  obtain ⟨xs, m, rfl, hx, hcl, hxl, hat⟩ := DataW.trod_array Try.underlying39 hf
  have hct : Try.prog.cellsOf 39 = 2 := by kernel_rfl
  have hcl2 : cs.size = 2 := by omega
  have hsz : (Value.agg cs).cells = cs := rfl
  rw [hsz] at hat
  obtain ⟨v0, v1, rfl⟩ : ∃ v0 v1, cs = #[v0, v1] := by
    obtain ⟨l⟩ := cs
    match l, hcl2 with
    | [v0, v1], _ => exact ⟨v0, v1, rfl⟩
  match xs, hxl with
  | [x0, x1], _ =>
    have h0 := hat 0 (by omega)
    have h1 := hat 1 (by omega)
    have gcI : Try.prog.cellsOf 3 = 1 := by kernel_rfl
    simp [gcI] at h0 h1
    obtain ⟨a0, rfl, -⟩ := gin_int h0
    obtain ⟨a1, rfl, -⟩ := gin_int h1
    exact ⟨a0, a1, rfl, trivial, trivial⟩
end
set_option maxHeartbeats 8000000 in
theorem ints_same2 (b1 b2 : Nat) (va vb : Value) (zs : List Int) (w : World) (ha : Own w b1 3 1 va zs.length (iRow zs)) (hb : Own w b2 3 1 vb zs.length (iRow zs)) (hn : zs.length < 4611686018427387904) :
    Calls Try.prog 12 #[va, vb] w fun e w' => e = .returned (.bool true) ∧ Below w.heap.size w w' := by
  obtain ⟨a1, c1, rfl⟩ := ha.slice
  obtain ⟨a2, c2, rfl⟩ := hb.slice
  have HA := Lib.hid (fun V (hV : Below w.heap.size w V) => ha.below hV)
  have HB := Lib.hid (fun V (hV : Below w.heap.size w V) => hb.below hV)
  have HN := Lib.hid hn
  have HG : Hid (∀ k, k < zs.length → (iRow zs)[k]? = some (.int .i64 (zs.getD k 0))) := Lib.hid (fun k hk => by unfold iRow; simp [List.getD_eq_getElem?_getD, hk])
  generalize iRow zs = rows at *
  generalize hnn : zs.length = n at *
  clear ha hb hn
  go_enter Try.func12, Try.ntmps12
  go_wp2_with fail
  go_loopw [5] (fun v wr => ∃ k : Nat, v = .int .i64 (k : Int) ∧ k ≤ n ∧ Below w.heap.size w wr) (fun v _ => n - (RowKit.intOf v).toNat)
  case atStart => exact ⟨0, rfl, Nat.zero_le _, Below.refl _ _⟩
  case round =>
    obtain ⟨k, rfl, hk, hbel⟩ := hrel
    have HBE := Lib.hid hbel
    by_cases hlt : k < n
    · have hlti : (k : Int) < (n : Int) := by omega
      have hk0 : (0 : Int) ≤ (k : Int) := by omega
      have hkw : IntKind.i64.wrap ((k : Int) + 1) = (k : Int) + 1 := by rw [IntKind.wrap_i64]; have := HN.out; omega
      obtain ⟨g1, q1, h1, k1⟩ := own1_cell (HA.out wr hbel) (by omega)
      obtain ⟨g2, q2, h2, k2⟩ := own1_cell (HB.out wr hbel) (by omega)
      simp only [Value.slice.injEq] at h1 h2
      obtain ⟨rfl, -, -⟩ := h1
      obtain ⟨rfl, -, -⟩ := h2
      have hd := HG.out k hlt
      have x1 := k1 k hlt _ hd
      have x2 := k2 k hlt _ hd
      generalize zs.getD k 0 = d at *
      have hne : (d != d) = false := by simp
      clear k1 k2 hd hbel
      go_upto_region 6 with (fail)
      go_quiet (fail)
      go_wp2_with fail
      refine ⟨⟨k + 1, by simp, by omega, below_drewN HBE.out _⟩, ?_⟩
      simp [RowKit.intOf]; omega
    · have hnk : ¬ (k : Int) < (n : Int) := by omega
      clear hlt
      go_wp2_with fail
      go_ret
      exact ⟨rfl, HBE.out⟩
end Go.Proofs.Ytomcnaghdfhkkaa
end

section
namespace Go.Proofs.Ytomcnaghdfhkkaa
open Go.RowKit Go.Lib Go.Fq Go.Pq Go.Iq Go.Nq Go.Ow
set_option linter.unusedVariables false
set_option linter.unusedSimpArgs false
set_option maxRecDepth 100000

set_option maxHeartbeats 8000000 in
theorem wt_any (G : Gr) (na : Option Addr) (nc : Nat) (la : Option Addr) (lc : Nat) (a b : Int) (w : World) (hin : GrIn w G na la) (hlen : G.links.length ≤ 4096) :
    Calls Try.prog 16 #[.agg #[.slice na G.nodes.length nc, .slice la G.links.length lc], .int .i64 a, .int .i64 b] w fun e w' => e = .returned (.float .f64 (wtV G.links a b)) ∧ Below w.heap.size w w' := by
  have hst := g_storeL
  obtain ⟨W1, hW1⟩ : ∃ W1, W1 = w.alloc (.cells #[.slice na G.nodes.length nc, .slice la G.links.length lc] 25) := ⟨_, rfl⟩
  have b1 : Below w.heap.size w W1 := by rw [hW1]; exact gAl _ _
  have s1 : w.heap.size < W1.heap.size := by rw [hW1]; simp
  have r1 : W1.heap[w.heap.size]? = some (.cells #[.slice na G.nodes.length nc, .slice la G.links.length lc] 25 (0, 0)) := by rw [hW1]; exact heap_alloc_new w _
  have HKG : Hid (∀ V, Below W1.heap.size W1 V → V.cell? ⟨w.heap.size, 0, none⟩ = some (.slice na G.nodes.length nc) ∧ V.cell? ⟨w.heap.size, 1, none⟩ = some (.slice la G.links.length lc)) := Lib.hid (fun V hV => by
    have := two_cells ((hV.block _ s1).trans r1)
    exact ⟨this.1, this.2.1⟩)
  have HB1 := Lib.hid b1
  have HIN : Hid (∀ V, Below W1.heap.size W1 V → GrIn V G na la) := Lib.hid (fun V hV => (hin.below b1).below hV)
  have HLL := Lib.hid hlen
  obtain ⟨Z, hZ⟩ : ∃ Z, Z = wtV G.links a b := ⟨_, rfl⟩
  rw [← hZ]
  have HZZ := Lib.hid hZ
  clear hin b1 s1 r1 hZ hlen
  go_enter Try.func16, Try.ntmps16
  go_upto_region 1 with (fail)
  rw [← hW1]
  clear hW1
  go_wp2_with fail
  go_loopw [7] (fun i wr => ∃ k : Nat, i = .int .i64 (k : Int) ∧ k ≤ G.links.length ∧ Z = wtV (G.links.drop k) a b ∧ Below W1.heap.size W1 wr) (fun i _ => G.links.length - (RowKit.intOf i).toNat)
  case atStart => exact ⟨0, rfl, Nat.zero_le _, HZZ.out, Below.refl _ _⟩
  case round =>
    obtain ⟨k, rfl, hk, hdr, hbel⟩ := hrel
    have HBE := Lib.hid hbel
    have HWV := Lib.hid hdr
    obtain ⟨k0, k1⟩ := HKG.out wr HBE.out
    by_cases hlt : k < G.links.length
    · have hlti : (k : Int) < (G.links.length : Int) := by omega
      have hk0 : (0 : Int) ≤ (k : Int) := by omega
      have hkw : IntKind.i64.wrap ((k : Int) + 1) = (k : Int) + 1 := by rw [IntKind.wrap_i64]; have := HLL.out; omega
      have HK1 : Hid (k + 1 ≤ G.links.length ∧ G.links.length - (k + 1) < G.links.length - k ∧ ((k : Int) + 1).toNat = k + 1 ∧ (k : Int) + 1 = ((k + 1 : Nat) : Int)) := Lib.hid ⟨by omega, by omega, by omega, by omega⟩
      obtain ⟨b2, o2, hla, hbb2, hc⟩ := (HIN.out wr HBE.out).links.at k hlt
      obtain ⟨c0', c1', c2', c3'⟩ := hc k hlt
      have HDR : Hid (wtV (G.links.drop k) a b = if wtB a b G.links[k] = true then G.links[k].w else wtV (G.links.drop (k + 1)) a b) := Lib.hid (by rw [List.drop_eq_getElem_cons hlt]; rfl)
      clear hc hbb2 hbel hdr
      subst hla
      generalize G.links[k] = y at *
      obtain ⟨W6, hW6⟩ : ∃ W6, W6 = wr.alloc (.cells #[.int .i64 y.a, .int .i64 y.b, .float .f64 y.w, .bool y.up] 77) := ⟨_, rfl⟩
      have b6 : Below wr.heap.size wr W6 := by rw [hW6]; exact gAl _ _
      have r6 : W6.heap[wr.heap.size]? = some (.cells #[.int .i64 y.a, .int .i64 y.b, .float .f64 y.w, .bool y.up] 77 (0, 0)) := by rw [hW6]; exact heap_alloc_new wr _
      obtain ⟨ll, hll⟩ : ∃ ll, ll = wr.heap.size := ⟨_, rfl⟩
      rw [← hll] at r6
      have l0 : W6.cell? ⟨ll, 0, none⟩ = some (.int .i64 y.a) := by rw [cell_of_row W6 _ 0 _ _ (0, 0) r6]; rfl
      have l1 : W6.cell? ⟨ll, 1, none⟩ = some (.int .i64 y.b) := by rw [cell_of_row W6 _ 1 _ _ (0, 0) r6]; rfl
      have l2 : W6.cell? ⟨ll, 2, none⟩ = some (.float .f64 y.w) := by rw [cell_of_row W6 _ 2 _ _ (0, 0) r6]; rfl
      have l3 : W6.cell? ⟨ll, 3, none⟩ = some (.bool y.up) := by rw [cell_of_row W6 _ 3 _ _ (0, 0) r6]; rfl
      have HB6 := Lib.hid (gNx HBE.out b6)
      clear b6 r6
      go_upto_region 5 with (fail)
      rw [← hW6, ← hll]
      clear hW6 c0' c1' c2' c3' k0 k1 hll
      cases hyu : y.up with
      | false =>
        rw [hyu] at l3
        have hwt : wtB a b y = false := by
          simp only [wtB, hyu, Bool.true_and, Bool.and_true, Bool.false_and, Bool.and_false, Bool.or_false, Bool.false_or, Bool.or_true, Bool.true_or]
        obtain ⟨ya, yb, yw, yu⟩ := y
        simp only at l0 l1 l2 l3 hwt 
        clear hyu
        clear l2
        go_wp2_with fail
        refine ⟨⟨k + 1, congrArg (Value.int .i64) HK1.out.2.2.2, HK1.out.1, by rw [HWV.out, HDR.out, hwt]; rfl, HB6.out⟩, ?_⟩
        show G.links.length - ((k : Int) + 1).toNat < G.links.length - (k : Int).toNat
        rw [HK1.out.2.2.1]
        exact HK1.out.2.1
      | true =>
        by_cases hA : y.a = a
        · by_cases hB : y.b = b
          · rw [hyu] at l3
            have eA : (y.a == a) = true := by simpa using hA
            have eB : (y.b == b) = true := by simpa using hB
            have hwt : wtB a b y = true := by
              simp only [wtB, hyu, decide_eq_true hA, decide_eq_true hB, Bool.true_and, Bool.and_true, Bool.false_and, Bool.and_false, Bool.or_false, Bool.false_or, Bool.or_true, Bool.true_or]
            obtain ⟨ya, yb, yw, yu⟩ := y
            simp only at l0 l1 l2 l3 hwt eA eB
            clear hyu hA hB
            go_wp2_with fail
            go_ret
            refine ⟨?_, gNx HB1.out HB6.out⟩
            rw [HWV.out, HDR.out, hwt]; rfl
          · by_cases hC : y.a = b
            · by_cases hD : y.b = a
              · rw [hyu] at l3
                have eA : (y.a == a) = true := by simpa using hA
                have eB : (y.b == b) = false := by simpa using hB
                have eC : (y.a == b) = true := by simpa using hC
                have eD : (y.b == a) = true := by simpa using hD
                have hwt : wtB a b y = true := by
                  simp only [wtB, hyu, decide_eq_true hA, decide_eq_false hB, decide_eq_true hC, decide_eq_true hD, Bool.true_and, Bool.and_true, Bool.false_and, Bool.and_false, Bool.or_false, Bool.false_or, Bool.or_true, Bool.true_or]
                obtain ⟨ya, yb, yw, yu⟩ := y
                simp only at l0 l1 l2 l3 hwt eA eB eC eD
                clear hyu hA hB hC hD
                go_wp2_with fail
                go_ret
                refine ⟨?_, gNx HB1.out HB6.out⟩
                rw [HWV.out, HDR.out, hwt]; rfl
              · rw [hyu] at l3
                have eA : (y.a == a) = true := by simpa using hA
                have eB : (y.b == b) = false := by simpa using hB
                have eC : (y.a == b) = true := by simpa using hC
                have eD : (y.b == a) = false := by simpa using hD
                have hwt : wtB a b y = false := by
                  simp only [wtB, hyu, decide_eq_true hA, decide_eq_false hB, decide_eq_true hC, decide_eq_false hD, Bool.true_and, Bool.and_true, Bool.false_and, Bool.and_false, Bool.or_false, Bool.false_or, Bool.or_true, Bool.true_or]
                obtain ⟨ya, yb, yw, yu⟩ := y
                simp only at l0 l1 l2 l3 hwt eA eB eC eD
                clear hyu hA hB hC hD
                clear l2
                go_wp2_with fail
                refine ⟨⟨k + 1, congrArg (Value.int .i64) HK1.out.2.2.2, HK1.out.1, by rw [HWV.out, HDR.out, hwt]; rfl, HB6.out⟩, ?_⟩
                show G.links.length - ((k : Int) + 1).toNat < G.links.length - (k : Int).toNat
                rw [HK1.out.2.2.1]
                exact HK1.out.2.1
            · rw [hyu] at l3
              have eA : (y.a == a) = true := by simpa using hA
              have eB : (y.b == b) = false := by simpa using hB
              have eC : (y.a == b) = false := by simpa using hC
              have hwt : wtB a b y = false := by
                simp only [wtB, hyu, decide_eq_true hA, decide_eq_false hB, decide_eq_false hC, Bool.true_and, Bool.and_true, Bool.false_and, Bool.and_false, Bool.or_false, Bool.false_or, Bool.or_true, Bool.true_or]
              obtain ⟨ya, yb, yw, yu⟩ := y
              simp only at l0 l1 l2 l3 hwt eA eB eC
              clear hyu hA hB hC
              clear l2
              go_wp2_with fail
              refine ⟨⟨k + 1, congrArg (Value.int .i64) HK1.out.2.2.2, HK1.out.1, by rw [HWV.out, HDR.out, hwt]; rfl, HB6.out⟩, ?_⟩
              show G.links.length - ((k : Int) + 1).toNat < G.links.length - (k : Int).toNat
              rw [HK1.out.2.2.1]
              exact HK1.out.2.1
        · by_cases hC : y.a = b
          · by_cases hD : y.b = a
            · rw [hyu] at l3
              have eA : (y.a == a) = false := by simpa using hA
              have eC : (y.a == b) = true := by simpa using hC
              have eD : (y.b == a) = true := by simpa using hD
              have hwt : wtB a b y = true := by
                simp only [wtB, hyu, decide_eq_false hA, decide_eq_true hC, decide_eq_true hD, Bool.true_and, Bool.and_true, Bool.false_and, Bool.and_false, Bool.or_false, Bool.false_or, Bool.or_true, Bool.true_or]
              obtain ⟨ya, yb, yw, yu⟩ := y
              simp only at l0 l1 l2 l3 hwt eA eC eD
              clear hyu hA hC hD
              go_wp2_with fail
              go_ret
              refine ⟨?_, gNx HB1.out HB6.out⟩
              rw [HWV.out, HDR.out, hwt]; rfl
            · rw [hyu] at l3
              have eA : (y.a == a) = false := by simpa using hA
              have eC : (y.a == b) = true := by simpa using hC
              have eD : (y.b == a) = false := by simpa using hD
              have hwt : wtB a b y = false := by
                simp only [wtB, hyu, decide_eq_false hA, decide_eq_true hC, decide_eq_false hD, Bool.true_and, Bool.and_true, Bool.false_and, Bool.and_false, Bool.or_false, Bool.false_or, Bool.or_true, Bool.true_or]
              obtain ⟨ya, yb, yw, yu⟩ := y
              simp only at l0 l1 l2 l3 hwt eA eC eD
              clear hyu hA hC hD
              clear l2
              go_wp2_with fail
              refine ⟨⟨k + 1, congrArg (Value.int .i64) HK1.out.2.2.2, HK1.out.1, by rw [HWV.out, HDR.out, hwt]; rfl, HB6.out⟩, ?_⟩
              show G.links.length - ((k : Int) + 1).toNat < G.links.length - (k : Int).toNat
              rw [HK1.out.2.2.1]
              exact HK1.out.2.1
          · rw [hyu] at l3
            have eA : (y.a == a) = false := by simpa using hA
            have eC : (y.a == b) = false := by simpa using hC
            have hwt : wtB a b y = false := by
              simp only [wtB, hyu, decide_eq_false hA, decide_eq_false hC, Bool.true_and, Bool.and_true, Bool.false_and, Bool.and_false, Bool.or_false, Bool.false_or, Bool.or_true, Bool.true_or]
            obtain ⟨ya, yb, yw, yu⟩ := y
            simp only at l0 l1 l2 l3 hwt eA eC
            clear hyu hA hC
            clear l2
            go_wp2_with fail
            refine ⟨⟨k + 1, congrArg (Value.int .i64) HK1.out.2.2.2, HK1.out.1, by rw [HWV.out, HDR.out, hwt]; rfl, HB6.out⟩, ?_⟩
            show G.links.length - ((k : Int) + 1).toNat < G.links.length - (k : Int).toNat
            rw [HK1.out.2.2.1]
            exact HK1.out.2.1
    · have hnk : ¬ (k : Int) < (G.links.length : Int) := by omega
      have HE : Hid (Z = 0) := Lib.hid (by rw [HWV.out, List.drop_eq_nil_of_le (by omega)]; rfl)
      clear hlt hdr hbel
      go_wp2_with fail
      go_ret
      refine ⟨?_, gNx HB1.out HBE.out⟩
      rw [HE.out]
      rfl
theorem row_ints {w : World} {base : Nat} {v : Value} {l : List Int} (ho : Own w base 3 1 v l.length (iRow l)) (hn : 0 < l.length) : ∃ g c, v = .slice (some ⟨g, 0, none⟩) l.length c ∧ l.length ≤ c ∧ g < w.heap.size ∧ ∀ V, Below w.heap.size w V → ∀ k, k < l.length → V.cell? ⟨g, k, none⟩ = some (.int .i64 (l.getD k 0)) := by
  obtain ⟨g, c, rfl, -⟩ := own1_cell ho hn
  obtain ⟨q1, q2⟩ := own_room ho hn
  refine ⟨g, c, rfl, q1, q2, fun V hV k hk => ?_⟩
  obtain ⟨g', c', e1, e2⟩ := own1_cell (ho.below hV) hn
  simp only [Value.slice.injEq, Option.some.injEq, Addr.mk.injEq, and_true, true_and] at e1
  obtain ⟨rfl, rfl⟩ := e1
  exact e2 k hk _ (by unfold iRow; simp [List.getD_eq_getElem?_getD, hk])
set_option maxHeartbeats 8000000 in
/-- Two lists of numbers, the second one from a place on. -/
theorem ints_piece (g1 g2 o n c1 c2 : Nat) (f : Nat → Int) (w : World) (hn : n < 4611686018427387904) (h1 : ∀ V, Below w.heap.size w V → ∀ k, k < n → V.cell? ⟨g1, k, none⟩ = some (.int .i64 (f k))) (h2 : ∀ V, Below w.heap.size w V → ∀ k, k < n → V.cell? ⟨g2, o + k, none⟩ = some (.int .i64 (f k))) :
    Calls Try.prog 12 #[.slice (some ⟨g1, 0, none⟩) n c1, .slice (some ⟨g2, o, none⟩) n c2] w fun e w' => e = .returned (.bool true) ∧ Below w.heap.size w w' := by
  have HA := Lib.hid h1
  have HB := Lib.hid h2
  have HN := Lib.hid hn
  clear h1 h2 hn
  go_enter Try.func12, Try.ntmps12
  go_wp2_with fail
  go_loopw [5] (fun v wr => ∃ k : Nat, v = .int .i64 (k : Int) ∧ k ≤ n ∧ Below w.heap.size w wr) (fun v _ => n - (RowKit.intOf v).toNat)
  case atStart => exact ⟨0, rfl, Nat.zero_le _, Below.refl _ _⟩
  case round =>
    obtain ⟨k, rfl, hk, hbel⟩ := hrel
    have HBE := Lib.hid hbel
    by_cases hlt : k < n
    · have hlti : (k : Int) < (n : Int) := by omega
      have hk0 : (0 : Int) ≤ (k : Int) := by omega
      have hkw : IntKind.i64.wrap ((k : Int) + 1) = (k : Int) + 1 := by rw [IntKind.wrap_i64]; have := HN.out; omega
      have x1 := HA.out wr hbel k hlt
      have x2 := HB.out wr hbel k hlt
      generalize f k = d at *
      have hne : (d != d) = false := by simp
      clear hbel
      go_upto_region 6 with (fail)
      go_quiet (fail)
      go_wp2_with fail
      refine ⟨⟨k + 1, by simp, by omega, below_drewN HBE.out _⟩, ?_⟩
      simp [RowKit.intOf]; omega
    · have hnk : ¬ (k : Int) < (n : Int) := by omega
      clear hlt
      go_wp2_with fail
      go_ret
      exact ⟨rfl, HBE.out⟩
theorem qw_zero : qw 0 = 0 := by decide +kernel
theorem qw_eqB {n m : Nat} (hn : n < 2 ^ 53) (hm : m < 2 ^ 53) : (FloatKind.f64.format.order (qw n) (qw m) == some .eq) = decide (n = m) := by
  rw [od_num (qw_nan hn) (qw_nan hm), Bool.eq_iff_iff, beq_iff_eq, Option.some.injEq, Int.compare_eq_eq, decide_eq_true_eq]
  exact ⟨ik_inj_qw hn hm, fun h => by rw [h]⟩
def TpS (V : World) (gb : Nat) (na la : Option Addr) (nc n lc m zg i : Nat) (x tz : Int) : Prop := V.cell? ⟨gb, 0, none⟩ = some (.slice na n nc) ∧ V.cell? ⟨gb, 1, none⟩ = some (.slice la m lc) ∧ V.cell? ⟨zg, i, none⟩ = some (.int .i64 x) ∧ V.cell? ⟨gb + 1, 1, none⟩ = some (.int .i64 tz)
def TpS2 (V : World) (gb : Nat) (na la : Option Addr) (nc n lc m zg j i : Nat) (x y : Int) : Prop := V.cell? ⟨gb, 0, none⟩ = some (.slice na n nc) ∧ V.cell? ⟨gb, 1, none⟩ = some (.slice la m lc) ∧ V.cell? ⟨zg, j, none⟩ = some (.int .i64 x) ∧ V.cell? ⟨zg, i, none⟩ = some (.int .i64 y)
set_option maxHeartbeats 16000000 in
theorem law_psteps (G : Gr) (na : Option Addr) (nc : Nat) (la : Option Addr) (lc : Nat) (max : Nat) (fr tz : Int) (w : World) (hin : GrIn w G na la) (hm : max < 2 ^ 64) (_ : True) (_ : True) :
    Calls Try.prog 4 #[.agg #[.slice na G.nodes.length nc, .slice la G.links.length lc], .float .f64 max, .agg #[.int .i64 fr, .int .i64 tz]] w fun e w' => e = .returned (.bool true) ∧ Below w.heap.size w w' := by
  obtain ⟨W0, hW0⟩ : ∃ W0, W0 = w.alloc (.cells #[.slice na G.nodes.length nc, .slice la G.links.length lc] 25) := ⟨_, rfl⟩
  have b0 : Below w.heap.size w W0 := by rw [hW0]; exact gAl _ _
  have s0 : w.heap.size < W0.heap.size := by rw [hW0]; simp
  have r0 : W0.heap[w.heap.size]? = some (.cells #[.slice na G.nodes.length nc, .slice la G.links.length lc] 25 (0, 0)) := by rw [hW0]; exact heap_alloc_new w _
  obtain ⟨W1, hW1⟩ : ∃ W1, W1 = W0.alloc (.cells #[.int .i64 fr, .int .i64 tz] 39) := ⟨_, rfl⟩
  have b01 : Below W0.heap.size W0 W1 := by rw [hW1]; exact gAl _ _
  have s1 : W0.heap.size < W1.heap.size := by rw [hW1]; simp
  have b1 : Below w.heap.size w W1 := gNx b0 b01
  have r1 : W1.heap[W0.heap.size]? = some (.cells #[.int .i64 fr, .int .i64 tz] 39 (0, 0)) := by rw [hW1]; exact heap_alloc_new W0 _
  have HKG : Hid (∀ V, Below W1.heap.size W1 V → V.cell? ⟨w.heap.size, 0, none⟩ = some (.slice na G.nodes.length nc) ∧ V.cell? ⟨w.heap.size, 1, none⟩ = some (.slice la G.links.length lc) ∧ V.cell? ⟨w.heap.size + 1, 0, none⟩ = some (.int .i64 fr) ∧ V.cell? ⟨w.heap.size + 1, 1, none⟩ = some (.int .i64 tz)) := Lib.hid (fun V hV => by
    have h1 := two_cells ((hV.block _ (Nat.lt_trans s0 s1)).trans ((b01.block _ s0).trans r0))
    have h2 := two_cells ((hV.block _ s1).trans r1)
    have hs : W0.heap.size = w.heap.size + 1 := by rw [hW0]; simp
    rw [← hs]
    exact ⟨h1.1, h1.2.1, h2.1, h2.2.1⟩)
  have HB1 := Lib.hid b1
  have HM := Lib.hid hm
  have HIN : Hid (∀ V, Below W1.heap.size W1 V → GrIn V G na la) := Lib.hid (fun V hV => (hin.below b1).below hV)
  have HP := Lib.hid (pPath_any G na nc la lc max fr tz W1 (hin.below b1) hm)
  have HWT := Lib.hid hin.wts
  have HAW := Lib.hid pAwake_any
  have HQ : Hid (askE G max [fr, tz] = 0 → limitF max = 0 ∧ checkG G = 0 ∧ has G.nodes fr = true ∧ has G.nodes tz = true) := Lib.hid (fun h => by
    obtain ⟨a1, a2, a3⟩ := askE_zero h
    simp only [List.all_cons, List.all_nil, Bool.and_true, Bool.and_eq_true] at a3
    exact ⟨a1, a2, a3.1, a3.2⟩)
  have HLI : Hid (askE G max [fr, tz] = 0 → qn max ≤ 4294967296) := Lib.hid (fun h => by
    obtain ⟨lim, l1, l2, l3⟩ := limit_q max hm (askE_zero h).1
    rw [l3, qn_qw (by omega)]; exact l2)
  obtain ⟨g0, g1, g2, g3⟩ := HKG.out W1 (Below.refl _ _)
  obtain ⟨E, hE⟩ : ∃ E, E = askE G max [fr, tz] := ⟨_, rfl⟩
  rw [← hE] at HP HQ HLI
  obtain ⟨s, hs⟩ : ∃ s, s = Nq.ahead G.nodes fr := ⟨_, rfl⟩
  obtain ⟨t, ht⟩ : ∃ t, t = Nq.ahead G.nodes tz := ⟨_, rfl⟩
  rw [← hs, ← ht] at HP
  have HSE := Lib.hid hs
  have HTE := Lib.hid ht
  clear hin hm b1 s1 r1 b0 s0 r0 b01 hE hs ht
  go_enter Try.func4, Try.ntmps4
  go_upto_region 1 with (fail)
  rw [← hW0, ← hW1]
  clear hW0 hW1
  go_wp2_with fail
  refine HP.out.mono ?_
  clear HP
  rintro e w2 (⟨hne, rfl, hb2⟩ | ⟨hE, c, hdp, hb2, hcase⟩)
  · have HB2 := Lib.hid (gNx HB1.out hb2)
    have hz : (E != 0) = true := by simpa using hne
    clear hb2 g0 g1 g2 g3 hne HQ HLI
    go_wp2_with fail
    refine (HAW.out w2).mono ?_
    rintro e w5 ⟨rfl, hb5⟩
    have HB5 := Lib.hid (gNx HB2.out hb5)
    clear hb5
    go_wp2_with fail
    go_ret
    exact ⟨rfl, HB5.out⟩
  · subst hE
    have HB2 := Lib.hid hb2
    have HL := Lib.hid (HLI.out rfl)
    have HZ := Lib.hid (HQ.out rfl)
    clear hb2 g0 g1 g2 g3 HQ HLI
    rcases hcase with ⟨hq, rfl⟩ | ⟨n, v, hq, rfl, ho⟩
    · have HIF := Lib.hid (isinf_o none trivial true rfl)
      generalize dw none = d at *
      clear hq hdp
      go_wp2_with (go_at_call 15; refine (HIF.out _).mono ?_; rintro e w' ⟨rfl, rfl⟩)
      refine (HAW.out w2).mono ?_
      rintro e w5 ⟨rfl, hb5⟩
      have HB5 := Lib.hid (gNx HB1.out (gNx HB2.out hb5))
      clear hb5
      go_wp2_with fail
      go_ret
      exact ⟨rfl, HB5.out⟩
    · have hn : n ≤ 4294967296 := by have := hdp.sm HL.out s; rw [hq] at this; exact this
      obtain ⟨hl0, hz, hfr, htz⟩ := HZ.out
      have n3 := (check_zero.1 hz).2.2.1
      have hsl : s < G.nodes.length := by rw [HSE.out]; exact ((has_at n3 fr).1 hfr).1
      have hif : (idf G.nodes s : Int) = fr := by rw [HSE.out]; exact (id_at n3 hfr).1
      have hit : (idf G.nodes t : Int) = tz := by rw [HTE.out]; exact (id_at n3 htz).1
      obtain ⟨zs, hzs⟩ : ∃ zs, zs = zsL G t c s n := ⟨_, rfl⟩
      have ho' : Own w2 W1.heap.size 3 1 v zs.length (iRow zs) := by rw [hzs]; exact ho
      have hsteps : ∀ i, i < zs.length → StepP G t c zs n i := by rw [hzs]; exact fun i hi => step_p hz HWT.out hdp hsl hq i hi
      have hends := path_ends hz HWT.out hdp hsl hq
      rw [← hzs, hit] at hends
      have hfst : zs.getD 0 0 = fr := by rw [hzs]; exact hif
      have hzl : zs.length ≤ 4294967298 := by rw [hzs]; have := zsL_len G t c s n; omega
      have hz0 : 0 < zs.length := by rw [hzs]; unfold zsL; simp
      have HPI : Hid (∀ i, i < zs.length → ∀ V, Below W1.heap.size W1 V → Calls Try.prog 14 #[.agg #[.slice na G.nodes.length nc, .slice la G.links.length lc], .float .f64 max, .int .i64 (zs.getD i 0), .int .i64 tz] V fun e w' => Below V.heap.size V w' ∧ ∃ rg rc, e = .returned (.tuple #[.slice (some ⟨rg, 0, none⟩) (zs.length - i) rc, .float .f64 (qw (lftOf G c zs i)), .int .i64 0]) ∧ ∀ V', Below w'.heap.size w' V' → ∀ k, k < zs.length - i → V'.cell? ⟨rg, k, none⟩ = some (.int .i64 (zs.getD (i + k) 0))) := Lib.hid (fun i hi V hV => by
        obtain ⟨⟨u, m, h1, h2, h3, h4, h5, h6⟩, -, -⟩ := hsteps i hi
        have hx : zs.getD i 0 = (idf G.nodes u : Int) := by rw [List.getD_eq_getElem?_getD, h4]; rfl
        obtain ⟨a1, a2⟩ := aheadOf n3 h1
        have hE : askE G max [(idf G.nodes u : Int), tz] = 0 := askE_ok hl0 hz (by simp [a1, htz])
        have hp := pPath_any G na nc la lc max (idf G.nodes u : Int) tz V (HIN.out V hV) HM.out
        rw [hE, a2, ← HTE.out] at hp
        rw [hx]
        refine hp.mono ?_
        rintro e w' (⟨hne, -⟩ | ⟨-, c2, hd2, hb2, hcase⟩)
        · exact absurd rfl hne
        have hcc := hd2.unique hdp
        subst hcc
        rcases hcase with ⟨hq2, -⟩ | ⟨m2, v2, hq2, rfl, ho2⟩
        · rw [h2] at hq2; cases hq2
        have hm2 : m2 = m := by rw [h2] at hq2; simpa using hq2.symm
        subst hm2
        refine ⟨hb2, ?_⟩
        have hlen : ((idf G.nodes u : Int) :: pathL G t c2 (m2 + 1) u).length = zs.length - i := by rw [← List.length_drop]; exact congrArg List.length h5.symm
        obtain ⟨rg, rc, rfl, -, -, hc⟩ := row_ints ho2 (by simp)
        refine ⟨rg, rc, ?_, fun V' hV' k hk => ?_⟩
        · rw [hlen, h6]; rfl
        · rw [hc V' hV' k (by rw [hlen]; exact hk)]
          have e5 : ((idf G.nodes u : Int) :: pathL G t c2 (m2 + 1) u) = zs.drop i := h5.symm
          rw [e5, List.getD_eq_getElem?_getD, List.getD_eq_getElem?_getD, List.getElem?_drop])
      have HDM : Hid (DistsP G t (qn max) c) := Lib.hid hdp
      have HZZ := Lib.hid hz
      have HNL : Hid (G.nodes.length ≤ 256 ∧ G.links.length ≤ 4096) := Lib.hid ⟨(check_zero.1 hz).1, (check_zero.1 hz).2.1⟩
      have HN := Lib.hid hn
      have HSP := Lib.hid hsteps
      have HEN := Lib.hid hends
      obtain ⟨zg, zc, hva, hzc, hzg, hzcell⟩ := row_ints ho' hz0
      subst hva
      have HZC := Lib.hid hzcell
      have HZL := Lib.hid hzl
      have HZ0 : Hid (0 < zs.length ∧ zs.length ≤ zc) := Lib.hid ⟨hz0, hzc⟩
      have HIF := Lib.hid (isinf_o (some n) hn false rfl)
      obtain ⟨d, hd⟩ : ∃ d, d = dw (some n) := ⟨_, rfl⟩
      have HD : Hid (d = qw n) := Lib.hid hd
      rw [← hd] at HIF ⊢
      obtain ⟨g0, g1, g2, g3⟩ := HKG.out w2 HB2.out
      have x0 := HZC.out w2 (Below.refl _ _) 0 hz0
      rw [hfst] at x0
      clear ho ho' hzs hsteps hends hfst hzl hzc hzg hzcell hdp hn hl0 hz hfr htz n3 hsl hif hit hd hq
      generalize hll : zs.length = zl at *
      obtain ⟨zp, hzp⟩ : ∃ zp, zp + 1 = zl := ⟨zl - 1, by omega⟩
      have HZP := Lib.hid hzp
      have xl := HZC.out w2 (Below.refl _ _) zp (by omega)
      have hzw : IntKind.i64.wrap ((zl : Int) - 1) = (zp : Int) := by rw [show ((zl : Int) - 1) = (zp : Int) by omega, IntKind.wrap_i64]; have := HZL.out; omega
      have hzp0 : (0 : Int) ≤ (zp : Int) := by omega
      have hzp1 : (zp : Int) < (zl : Int) := by omega
      have hzz : ((zl : Int) == 0) = false := by simp; omega
      have hz00 : (0 : Int) < (zl : Int) := by omega
      have hlz : zs.getD zp 0 = tz := by have := HEN.out.1; rwa [← hzp, Nat.add_sub_cancel] at this
      rw [hlz] at xl
      have hnf : (fr != fr) = false := by simp
      have hnt : (tz != tz) = false := by simp
      clear hlz hzp
      go_upto_region 4 with (go_at_call 15; refine (HIF.out _).mono ?_; rintro e w' ⟨rfl, rfl⟩)
      go_quiet (fail)
      go_wp2_with fail
      clear g0 g1 g2 g3 x0 xl hzw hzp0 hzp1 hzz hnf hnt HIF
      go_loopw [11, 10] (fun i sm wr => ∃ k : Nat, i = .int .i64 (k : Int) ∧ sm = .float .f64 (qw (cameTo G c zs n k)) ∧ k ≤ zl ∧ Below w2.heap.size w2 wr) (fun i _ _ => zl - (RowKit.intOf i).toNat)
      case atStart => exact ⟨0, rfl, congrArg (Value.float .f64) qw_zero.symm, Nat.zero_le _, Go.Iq.below_drewN (Below.refl _ _) _⟩
      case round =>
        obtain ⟨i, rfl, rfl, hk, hbel⟩ := hrel
        obtain ⟨wo, hwo⟩ : ∃ wo, wo = wr := ⟨_, rfl⟩
        subst hwo
        have HBO := Lib.hid hbel
        by_cases hlt : i < zl
        · have hlti : (i : Int) < (zl : Int) := by omega
          have hi0 : (0 : Int) ≤ (i : Int) := by omega
          have hiw : IntKind.i64.wrap ((i : Int) + 1) = (i : Int) + 1 := by rw [IntKind.wrap_i64]; have := HZL.out; omega
          have HK1 : Hid (i + 1 ≤ zl ∧ zl - (i + 1) < zl - i ∧ ((i : Int) + 1).toNat = i + 1 ∧ (i : Int) + 1 = ((i + 1 : Nat) : Int)) := Lib.hid ⟨by omega, by omega, by omega, by omega⟩
          have HLT := Lib.hid hlt
          have HST := Lib.hid (HSP.out i hlt)
          have HC4 := Lib.hid (gNx HB2.out hbel)
          obtain ⟨sm, hsm⟩ : ∃ sm, sm = qw (cameTo G c zs n i) := ⟨_, rfl⟩
          have HSM := Lib.hid hsm
          rw [← hsm]
          clear hsm hbel hlt hk
          go_wp2_with fail
          go_loopw [12] (fun u wr => ∃ k : Nat, u = .int .i64 (k : Int) ∧ k ≤ i ∧ Below wo.heap.size wo wr) (fun u _ => i - (RowKit.intOf u).toNat)
          case atStart => exact ⟨0, rfl, Nat.zero_le _, Below.refl _ _⟩
          case round =>
            obtain ⟨k, rfl, hk2, hbi⟩ := hrel
            have HBI := Lib.hid hbi
            by_cases hl2 : k < i
            · have hl2i : (k : Int) < (i : Int) := by omega
              have hk20 : (0 : Int) ≤ (k : Int) := by omega
              have hkz : (k : Int) < (zl : Int) := by omega
              have hkw2 : IntKind.i64.wrap ((k : Int) + 1) = (k : Int) + 1 := by rw [IntKind.wrap_i64]; have := HZL.out; omega
              have HK2 : Hid (k + 1 ≤ i ∧ i - (k + 1) < i - k ∧ ((k : Int) + 1).toNat = k + 1 ∧ (k : Int) + 1 = ((k + 1 : Nat) : Int)) := Lib.hid ⟨by omega, by omega, by omega, by omega⟩
              have c1 := HZC.out wr (gNx HBO.out hbi) k (by have := HLT.out; omega)
              have c2 := HZC.out wr (gNx HBO.out hbi) i HLT.out
              have hne : (zs.getD k 0 == zs.getD i 0) = false := by simpa using no_twice (fun i hi => HSP.out i (by rw [← hll]; exact hi)) (by rw [hll]; exact HLT.out) hl2
              clear hbi hl2 hk2
              generalize zs.getD k 0 = z1 at *
              generalize zs.getD i 0 = z2 at *
              go_upto_region 13 with (fail)
              go_quiet (fail)
              go_wp2_with fail
              refine ⟨⟨k + 1, congrArg (Value.int .i64) HK2.out.2.2.2, HK2.out.1, Go.Iq.below_drewN HBI.out _⟩, ?_⟩
              show i - ((k : Int) + 1).toNat < i - (k : Int).toNat
              rw [HK2.out.2.2.1]
              exact HK2.out.2.1
            · have hnk2 : ¬ (k : Int) < (i : Int) := by omega
              have HB5 := Lib.hid (gNx HBO.out hbi)
              have HC5 := Lib.hid (gNx HC4.out hbi)
              clear hbi hl2
              by_cases hi00 : i = 0
              · have hg1 : ¬ (0 : Int) < (i : Int) := by omega
                have hg2 : ¬ 0 < i := by omega
                have HS2 : Hid (sm = qw (cameTo G c zs n (i + 1))) := Lib.hid (by
                  have e := HST.out.first hi00
                  rw [HSM.out]
                  rw [hi00] at e ⊢
                  show qw 0 = qw (n - lftOf G c zs 0)
                  rw [e, Nat.sub_self])
                clear hi00
                have HSS := Lib.hid (fun V (hV : Below W1.heap.size W1 V) (h2 : Below w2.heap.size w2 V) => show TpS V w.heap.size na la nc G.nodes.length lc G.links.length zg i (zs.getD i 0) tz from ⟨(HKG.out V hV).1, (HKG.out V hV).2.1, HZC.out V h2 i HLT.out, (HKG.out V hV).2.2.2⟩)
                have HPC := Lib.hid (HPI.out i HLT.out)
                obtain ⟨x, hx⟩ : ∃ x, x = zs.getD i 0 := ⟨_, rfl⟩
                rw [← hx] at HSS HPC
                clear hx
                go_upto_region 20 with (fail)
                clear hg1 hg2
                refine wp_region_held_drew (S := fun V => TpS V w.heap.size na la nc G.nodes.length lc G.links.length zg i x tz) (by kernel_rfl) (HSS.out _ (Below.drew HC5.out) (Below.drew HB5.out)) (fun hH => ?_)
                have hs0 := HSS.out _ (Below.drew HC5.out) (Below.drew HB5.out)
                have B0 : Hid (Below w2.heap.size w2 wr.drew) := Lib.hid (Below.drew HB5.out)
                have C0 : Hid (Below W1.heap.size W1 wr.drew) := Lib.hid (Below.drew HC5.out)
                generalize wr.drew = V0 at *
                refine tk 0 (by assumption) rfl (by kernel_rfl) (fun _ _ _ h => h) (fun V hV => by obtain ⟨hx0, hx1, hx2, hx3⟩ := hV; go_simp; try with_reducible rfl) ?_
                try simp only [Act.put, List.setIfInBounds_toArray, List.set_cons_zero, List.set_cons_succ, List.getElem_toArray, List.getElem_cons_succ, List.getElem_cons_zero]
                refine tk 1 (by assumption) rfl (by kernel_rfl) (fun _ _ _ h => h) (fun V hV => by go_simp; try with_reducible rfl) ?_
                try simp only [Act.put, List.setIfInBounds_toArray, List.set_cons_zero, List.set_cons_succ, List.getElem_toArray, List.getElem_cons_succ, List.getElem_cons_zero]
                refine tk 2 (by assumption) rfl (by kernel_rfl) (fun _ _ _ h => h) (fun V hV => by go_simp; try with_reducible rfl) ?_
                try simp only [Act.put, List.setIfInBounds_toArray, List.set_cons_zero, List.set_cons_succ, List.getElem_toArray, List.getElem_cons_succ, List.getElem_cons_zero]
                refine tk 3 (by assumption) rfl (by kernel_rfl) (fun _ _ _ h => h) (fun V hV => by go_simp; try with_reducible rfl) ?_
                try simp only [Act.put, List.setIfInBounds_toArray, List.set_cons_zero, List.set_cons_succ, List.getElem_toArray, List.getElem_cons_succ, List.getElem_cons_zero]
                refine tk 4 (by assumption) rfl (by kernel_rfl) (fun _ _ _ h => h) (fun V hV => by go_simp; try with_reducible rfl) ?_
                try simp only [Act.put, List.setIfInBounds_toArray, List.set_cons_zero, List.set_cons_succ, List.getElem_toArray, List.getElem_cons_succ, List.getElem_cons_zero]
                refine tk 5 (by assumption) rfl (by kernel_rfl) (fun _ _ _ h => h) (fun V hV => by obtain ⟨hx0, hx1, hx2, hx3⟩ := hV; go_simp; try with_reducible rfl) ?_
                try simp only [Act.put, List.setIfInBounds_toArray, List.set_cons_zero, List.set_cons_succ, List.getElem_toArray, List.getElem_cons_succ, List.getElem_cons_zero]
                refine tk 6 (by assumption) rfl (by kernel_rfl) (fun _ _ _ h => h) (fun V hV => by go_simp; try with_reducible rfl) ?_
                try simp only [Act.put, List.setIfInBounds_toArray, List.set_cons_zero, List.set_cons_succ, List.getElem_toArray, List.getElem_cons_succ, List.getElem_cons_zero]
                refine tk 7 (by assumption) rfl (by kernel_rfl) (fun _ _ _ h => h) (fun V hV => by obtain ⟨hx0, hx1, hx2, hx3⟩ := hV; go_simp; try with_reducible rfl) ?_
                try simp only [Act.put, List.setIfInBounds_toArray, List.set_cons_zero, List.set_cons_succ, List.getElem_toArray, List.getElem_cons_succ, List.getElem_cons_zero]
                refine wpAnyH_ready (rs := [8]) (by kernel_rfl) (by simp) ?_
                refine AllReadyH.cons (o := _) rfl (fun K hK => ?_) AllReadyH.nil
                go_simp
                refine (HPC.out V0 C0.out).mono ?_
                rintro e V1 ⟨hb1, rg, rc, rfl, hrc⟩
                have B1 : Hid (Below w2.heap.size w2 V1) := Lib.hid (gNx B0.out hb1)
                have C1 : Hid (Below W1.heap.size W1 V1) := Lib.hid (gNx C0.out hb1)
                have HRC := Lib.hid hrc
                clear hb1 hrc
                have HIP : Hid (Calls Try.prog 12 #[.slice (some ⟨rg, 0, none⟩) (zl - i) rc, .slice (some ⟨zg, i, none⟩) (zl - i) (zc - i)] V1 fun e w' => e = .returned (.bool true) ∧ Below V1.heap.size V1 w') := Lib.hid (ints_piece rg zg i (zl - i) rc (zc - i) (fun k => zs.getD (i + k) 0) V1 (by have := HZL.out; omega) HRC.out (fun V hV k hk => HZC.out V (gNx B1.out hV) (i + k) (by omega)))
                go_wp2_with fail
                refine hK.out _ _ (HSS.out _ C1.out B1.out) (fun hH => ?_)
                clear hK K
                try simp only [Act.put, List.setIfInBounds_toArray, List.set_cons_zero, List.set_cons_succ, List.getElem_toArray, List.getElem_cons_succ, List.getElem_cons_zero]
                refine tk 9 (by assumption) rfl (by kernel_rfl) (fun _ _ _ h => h) (fun V hV => by go_simp; try with_reducible rfl) ?_
                try simp only [Act.put, List.setIfInBounds_toArray, List.set_cons_zero, List.set_cons_succ, List.getElem_toArray, List.getElem_cons_succ, List.getElem_cons_zero]
                refine tk 10 (by assumption) rfl (by kernel_rfl) (fun _ _ _ h => h) (fun V hV => by go_simp; try with_reducible rfl) ?_
                try simp only [Act.put, List.setIfInBounds_toArray, List.set_cons_zero, List.set_cons_succ, List.getElem_toArray, List.getElem_cons_succ, List.getElem_cons_zero]
                refine tk 11 (by assumption) rfl (by kernel_rfl) (fun _ _ _ h => h) (fun V hV => by go_simp; try with_reducible rfl) ?_
                try simp only [Act.put, List.setIfInBounds_toArray, List.set_cons_zero, List.set_cons_succ, List.getElem_toArray, List.getElem_cons_succ, List.getElem_cons_zero]
                refine tk 12 (by assumption) rfl (by kernel_rfl) (fun _ _ _ h => h) (fun V hV => by go_simp; try with_reducible rfl) ?_
                try simp only [Act.put, List.setIfInBounds_toArray, List.set_cons_zero, List.set_cons_succ, List.getElem_toArray, List.getElem_cons_succ, List.getElem_cons_zero]
                refine tk 13 (by assumption) rfl (by kernel_rfl) (fun _ _ _ h => h) (fun V hV => by go_simp; try with_reducible rfl) ?_
                try simp only [Act.put, List.setIfInBounds_toArray, List.set_cons_zero, List.set_cons_succ, List.getElem_toArray, List.getElem_cons_succ, List.getElem_cons_zero]
                refine tk 14 (by assumption) rfl (by kernel_rfl) (fun _ _ _ h => h) (fun V hV => by go_simp; try with_reducible rfl) ?_
                try simp only [Act.put, List.setIfInBounds_toArray, List.set_cons_zero, List.set_cons_succ, List.getElem_toArray, List.getElem_cons_succ, List.getElem_cons_zero]
                refine tk 15 (by assumption) rfl (by kernel_rfl) (fun _ _ _ h => h) (fun V hV => by go_simp; try with_reducible rfl) ?_
                try simp only [Act.put, List.setIfInBounds_toArray, List.set_cons_zero, List.set_cons_succ, List.getElem_toArray, List.getElem_cons_succ, List.getElem_cons_zero]
                refine wpAnyH_done (by kernel_rfl) ?_ _
                clear hs0
                have hzci : ¬ zc = i := by have := HZ0.out; have := HLT.out; omega
                go_wp2_with fail
                refine HIP.out.mono ?_
                rintro e V2 ⟨rfl, hb2⟩
                have HB8 := Lib.hid (gNx B1.out hb2)
                clear hb2
                have hadd2 : Ieee.double.add sm (qw (lftOf G c zs i)) = some d := by
                  rw [HS2.out, HD.out]
                  obtain ⟨⟨u, m, h1, h2, h3, h4, h5, h6⟩, -, -⟩ := HST.out
                  show Ieee.double.add (qw (n - lftOf G c zs i)) (qw (lftOf G c zs i)) = some (qw n)
                  rcases Nat.eq_zero_or_pos n with h0 | h0
                  · have e0 : lftOf G c zs i = 0 := by omega
                    rw [e0, h0]; exact add_zeros
                  · have h := add_qw (n - lftOf G c zs i) (lftOf G c zs i) (by have := HN.out; omega) (by omega)
                    rw [show n - lftOf G c zs i + lftOf G c zs i = n by omega] at h
                    exact h
                have hfe : (FloatKind.f64.format.order d d != some .eq) = false := by
                  have h := qw_eqB (n := n) (m := n) (by have := HN.out; omega) (by have := HN.out; omega)
                  rw [← HD.out] at h
                  simp [bne, h]
                have e2 := fun w => run_add_some (P := Try.prog) 26 sm (qw (lftOf G c zs i)) d hadd2 w
                go_wp2_with fail
                refine ⟨⟨i + 1, congrArg (Value.int .i64) HK1.out.2.2.2, congrArg (Value.float .f64) HS2.out, HK1.out.1, HB8.out⟩, ?_⟩
                show zl - ((i : Int) + 1).toNat < zl - (i : Int).toNat
                rw [HK1.out.2.2.1]
                exact HK1.out.2.1
              · obtain ⟨j, hj⟩ : ∃ j, j + 1 = i := ⟨i - 1, by omega⟩
                have hg1 : (0 : Int) < (i : Int) := by omega
                have hg2 : 0 < i := by omega
                have hjw : IntKind.i64.wrap ((i : Int) - 1) = (j : Int) := by rw [show ((i : Int) - 1) = (j : Int) by omega, IntKind.wrap_i64]; have := HZL.out; omega
                have hj0 : (0 : Int) ≤ (j : Int) := by omega
                have hjz : (j : Int) < (zl : Int) := by omega
                have HJ : Hid (j < zl ∧ j = i - 1) := Lib.hid (by have := HLT.out; omega)
                obtain ⟨c1, c2, c3, c4⟩ := HST.out.came (by omega)
                rw [← HJ.out.2] at c1 c2 c3 c4
                have HSS := Lib.hid (fun V (hV : Below W1.heap.size W1 V) (h2 : Below w2.heap.size w2 V) => show TpS2 V w.heap.size na la nc G.nodes.length lc G.links.length zg j i (zs.getD j 0) (zs.getD i 0) from ⟨(HKG.out V hV).1, (HKG.out V hV).2.1, HZC.out V h2 j HJ.out.1, HZC.out V h2 i HLT.out⟩)
                obtain ⟨wq, hwq⟩ : ∃ wq, wq = qw (lftOf G c zs j - lftOf G c zs i) := ⟨_, rfl⟩
                have HWC : Hid (∀ V, Below W1.heap.size W1 V → Calls Try.prog 16 #[.agg #[.slice na G.nodes.length nc, .slice la G.links.length lc], .int .i64 (zs.getD j 0), .int .i64 (zs.getD i 0)] V fun e w' => e = .returned (.float .f64 wq) ∧ Below V.heap.size V w') := Lib.hid (fun V hV => by
                  have h := wt_any G na nc la lc (zs.getD j 0) (zs.getD i 0) V (HIN.out V hV) HNL.out.2
                  rw [c4, ← hwq] at h
                  exact h)
                have hw0 : (FloatKind.f64.format.order wq 0 == some .eq) = false := by
                  have h := qw_eqB (n := lftOf G c zs j - lftOf G c zs i) (m := 0) (by have := HN.out; omega) (by omega)
                  rw [qw_zero, ← hwq] at h
                  rw [h]
                  simp; omega
                have hci : cameTo G c zs n i = n - lftOf G c zs j := by rw [← hj]; rfl
                have hadd : Ieee.double.add (qw (cameTo G c zs n i)) wq = some (qw (cameTo G c zs n (i + 1))) := by
                  rw [hwq, hci]
                  show Ieee.double.add (qw (n - lftOf G c zs j)) (qw (lftOf G c zs j - lftOf G c zs i)) = some (qw (n - lftOf G c zs i))
                  rw [show n - lftOf G c zs i = (n - lftOf G c zs j) + (lftOf G c zs j - lftOf G c zs i) by omega]
                  exact add_qw _ _ (by have := HN.out; omega) (by omega)
                obtain ⟨S, hS⟩ : ∃ S, S = qw (cameTo G c zs n (i + 1)) := ⟨_, rfl⟩
                have HS2 := Lib.hid hS
                rw [← HSM.out, ← hS] at hadd
                have e1 := fun w => run_add_some (P := Try.prog) 26 sm wq S hadd w
                obtain ⟨x, hx⟩ : ∃ x, x = zs.getD j 0 := ⟨_, rfl⟩
                obtain ⟨y, hy⟩ : ∃ y, y = zs.getD i 0 := ⟨_, rfl⟩
                rw [← hx, ← hy] at HSS HWC
                clear hx hy hadd hS hci hwq c1 c2 c3 c4 hj hi00
                go_upto_region 16 with (fail)
                refine wp_region_held_drew (S := fun V => TpS2 V w.heap.size na la nc G.nodes.length lc G.links.length zg j i x y) (by kernel_rfl) (HSS.out _ (Below.drew HC5.out) (Below.drew HB5.out)) (fun hH => ?_)
                have hs0 := HSS.out _ (Below.drew HC5.out) (Below.drew HB5.out)
                have B0 : Hid (Below w2.heap.size w2 wr.drew) := Lib.hid (Below.drew HB5.out)
                have C0 : Hid (Below W1.heap.size W1 wr.drew) := Lib.hid (Below.drew HC5.out)
                generalize wr.drew = V0 at *
                refine tk 0 (by assumption) rfl (by kernel_rfl) (fun _ _ _ h => h) (fun V hV => by obtain ⟨hx0, hx1, hx2, hx3⟩ := hV; go_simp; try with_reducible rfl) ?_
                try simp only [Act.put, List.setIfInBounds_toArray, List.set_cons_zero, List.set_cons_succ, List.getElem_toArray, List.getElem_cons_succ, List.getElem_cons_zero]
                refine tk 1 (by assumption) rfl (by kernel_rfl) (fun _ _ _ h => h) (fun V hV => by go_simp; try with_reducible rfl) ?_
                try simp only [Act.put, List.setIfInBounds_toArray, List.set_cons_zero, List.set_cons_succ, List.getElem_toArray, List.getElem_cons_succ, List.getElem_cons_zero]
                refine tk 2 (by assumption) rfl (by kernel_rfl) (fun _ _ _ h => h) (fun V hV => by go_simp; try with_reducible rfl) ?_
                try simp only [Act.put, List.setIfInBounds_toArray, List.set_cons_zero, List.set_cons_succ, List.getElem_toArray, List.getElem_cons_succ, List.getElem_cons_zero]
                refine tk (v := .int .i64 (j : Int)) 3 (by assumption) rfl (by kernel_rfl) (fun _ _ _ h => h) (fun V hV => by go_simp; try with_reducible rfl) ?_
                try simp only [Act.put, List.setIfInBounds_toArray, List.set_cons_zero, List.set_cons_succ, List.getElem_toArray, List.getElem_cons_succ, List.getElem_cons_zero]
                refine tk 4 (by assumption) rfl (by kernel_rfl) (fun _ _ _ h => h) (fun V hV => by go_simp; try with_reducible rfl) ?_
                try simp only [Act.put, List.setIfInBounds_toArray, List.set_cons_zero, List.set_cons_succ, List.getElem_toArray, List.getElem_cons_succ, List.getElem_cons_zero]
                refine tk 5 (by assumption) rfl (by kernel_rfl) (fun _ _ _ h => h) (fun V hV => by obtain ⟨hx0, hx1, hx2, hx3⟩ := hV; go_simp; try with_reducible rfl) ?_
                try simp only [Act.put, List.setIfInBounds_toArray, List.set_cons_zero, List.set_cons_succ, List.getElem_toArray, List.getElem_cons_succ, List.getElem_cons_zero]
                refine tk 6 (by assumption) rfl (by kernel_rfl) (fun _ _ _ h => h) (fun V hV => by go_simp; try with_reducible rfl) ?_
                try simp only [Act.put, List.setIfInBounds_toArray, List.set_cons_zero, List.set_cons_succ, List.getElem_toArray, List.getElem_cons_succ, List.getElem_cons_zero]
                refine tk 7 (by assumption) rfl (by kernel_rfl) (fun _ _ _ h => h) (fun V hV => by go_simp; try with_reducible rfl) ?_
                try simp only [Act.put, List.setIfInBounds_toArray, List.set_cons_zero, List.set_cons_succ, List.getElem_toArray, List.getElem_cons_succ, List.getElem_cons_zero]
                refine tk 8 (by assumption) rfl (by kernel_rfl) (fun _ _ _ h => h) (fun V hV => by go_simp; try with_reducible rfl) ?_
                try simp only [Act.put, List.setIfInBounds_toArray, List.set_cons_zero, List.set_cons_succ, List.getElem_toArray, List.getElem_cons_succ, List.getElem_cons_zero]
                refine tk 9 (by assumption) rfl (by kernel_rfl) (fun _ _ _ h => h) (fun V hV => by obtain ⟨hx0, hx1, hx2, hx3⟩ := hV; go_simp; try with_reducible rfl) ?_
                try simp only [Act.put, List.setIfInBounds_toArray, List.set_cons_zero, List.set_cons_succ, List.getElem_toArray, List.getElem_cons_succ, List.getElem_cons_zero]
                refine wpAnyH_ready (rs := [10]) (by kernel_rfl) (by simp) ?_
                refine AllReadyH.cons (o := _) rfl (fun K hK => ?_) AllReadyH.nil
                go_simp
                refine (HWC.out V0 C0.out).mono ?_
                rintro e V7 ⟨rfl, hb1⟩
                have HB6 : Hid (Below w2.heap.size w2 V7) := Lib.hid (gNx B0.out hb1)
                have HC6 : Hid (Below W1.heap.size W1 V7) := Lib.hid (gNx C0.out hb1)
                clear hb1
                go_wp2_with fail
                refine hK.out _ _ (HSS.out _ HC6.out HB6.out) (fun hH => ?_)
                clear hK K
                try simp only [Act.put, List.setIfInBounds_toArray, List.set_cons_zero, List.set_cons_succ, List.getElem_toArray, List.getElem_cons_succ, List.getElem_cons_zero]
                refine tk 11 (by assumption) rfl (by kernel_rfl) (fun _ _ _ h => h) (fun V hV => by go_simp; try with_reducible rfl) ?_
                try simp only [Act.put, List.setIfInBounds_toArray, List.set_cons_zero, List.set_cons_succ, List.getElem_toArray, List.getElem_cons_succ, List.getElem_cons_zero]
                refine wpAnyH_done (by kernel_rfl) ?_ _
                clear hs0 B0 C0 HSS HWC
                have HSS := Lib.hid (fun V (hV : Below W1.heap.size W1 V) (h2 : Below w2.heap.size w2 V) => show TpS V w.heap.size na la nc G.nodes.length lc G.links.length zg i (zs.getD i 0) tz from ⟨(HKG.out V hV).1, (HKG.out V hV).2.1, HZC.out V h2 i HLT.out, (HKG.out V hV).2.2.2⟩)
                have HPC := Lib.hid (HPI.out i HLT.out)
                obtain ⟨x, hx⟩ : ∃ x, x = zs.getD i 0 := ⟨_, rfl⟩
                rw [← hx] at HSS HPC
                clear hx
                go_upto_region 20 with (fail)
                clear hg1 hg2
                refine wp_region_held_drew (S := fun V => TpS V w.heap.size na la nc G.nodes.length lc G.links.length zg i x tz) (by kernel_rfl) (HSS.out _ (Below.drew HC6.out) (Below.drew HB6.out)) (fun hH => ?_)
                have hs0 := HSS.out _ (Below.drew HC6.out) (Below.drew HB6.out)
                have B0 : Hid (Below w2.heap.size w2 V7.drew) := Lib.hid (Below.drew HB6.out)
                have C0 : Hid (Below W1.heap.size W1 V7.drew) := Lib.hid (Below.drew HC6.out)
                generalize V7.drew = V0 at *
                refine tk 0 (by assumption) rfl (by kernel_rfl) (fun _ _ _ h => h) (fun V hV => by obtain ⟨hx0, hx1, hx2, hx3⟩ := hV; go_simp; try with_reducible rfl) ?_
                try simp only [Act.put, List.setIfInBounds_toArray, List.set_cons_zero, List.set_cons_succ, List.getElem_toArray, List.getElem_cons_succ, List.getElem_cons_zero]
                refine tk 1 (by assumption) rfl (by kernel_rfl) (fun _ _ _ h => h) (fun V hV => by go_simp; try with_reducible rfl) ?_
                try simp only [Act.put, List.setIfInBounds_toArray, List.set_cons_zero, List.set_cons_succ, List.getElem_toArray, List.getElem_cons_succ, List.getElem_cons_zero]
                refine tk 2 (by assumption) rfl (by kernel_rfl) (fun _ _ _ h => h) (fun V hV => by go_simp; try with_reducible rfl) ?_
                try simp only [Act.put, List.setIfInBounds_toArray, List.set_cons_zero, List.set_cons_succ, List.getElem_toArray, List.getElem_cons_succ, List.getElem_cons_zero]
                refine tk 3 (by assumption) rfl (by kernel_rfl) (fun _ _ _ h => h) (fun V hV => by go_simp; try with_reducible rfl) ?_
                try simp only [Act.put, List.setIfInBounds_toArray, List.set_cons_zero, List.set_cons_succ, List.getElem_toArray, List.getElem_cons_succ, List.getElem_cons_zero]
                refine tk 4 (by assumption) rfl (by kernel_rfl) (fun _ _ _ h => h) (fun V hV => by go_simp; try with_reducible rfl) ?_
                try simp only [Act.put, List.setIfInBounds_toArray, List.set_cons_zero, List.set_cons_succ, List.getElem_toArray, List.getElem_cons_succ, List.getElem_cons_zero]
                refine tk 5 (by assumption) rfl (by kernel_rfl) (fun _ _ _ h => h) (fun V hV => by obtain ⟨hx0, hx1, hx2, hx3⟩ := hV; go_simp; try with_reducible rfl) ?_
                try simp only [Act.put, List.setIfInBounds_toArray, List.set_cons_zero, List.set_cons_succ, List.getElem_toArray, List.getElem_cons_succ, List.getElem_cons_zero]
                refine tk 6 (by assumption) rfl (by kernel_rfl) (fun _ _ _ h => h) (fun V hV => by go_simp; try with_reducible rfl) ?_
                try simp only [Act.put, List.setIfInBounds_toArray, List.set_cons_zero, List.set_cons_succ, List.getElem_toArray, List.getElem_cons_succ, List.getElem_cons_zero]
                refine tk 7 (by assumption) rfl (by kernel_rfl) (fun _ _ _ h => h) (fun V hV => by obtain ⟨hx0, hx1, hx2, hx3⟩ := hV; go_simp; try with_reducible rfl) ?_
                try simp only [Act.put, List.setIfInBounds_toArray, List.set_cons_zero, List.set_cons_succ, List.getElem_toArray, List.getElem_cons_succ, List.getElem_cons_zero]
                refine wpAnyH_ready (rs := [8]) (by kernel_rfl) (by simp) ?_
                refine AllReadyH.cons (o := _) rfl (fun K hK => ?_) AllReadyH.nil
                go_simp
                refine (HPC.out V0 C0.out).mono ?_
                rintro e V1 ⟨hb1, rg, rc, rfl, hrc⟩
                have B1 : Hid (Below w2.heap.size w2 V1) := Lib.hid (gNx B0.out hb1)
                have C1 : Hid (Below W1.heap.size W1 V1) := Lib.hid (gNx C0.out hb1)
                have HRC := Lib.hid hrc
                clear hb1 hrc
                have HIP : Hid (Calls Try.prog 12 #[.slice (some ⟨rg, 0, none⟩) (zl - i) rc, .slice (some ⟨zg, i, none⟩) (zl - i) (zc - i)] V1 fun e w' => e = .returned (.bool true) ∧ Below V1.heap.size V1 w') := Lib.hid (ints_piece rg zg i (zl - i) rc (zc - i) (fun k => zs.getD (i + k) 0) V1 (by have := HZL.out; omega) HRC.out (fun V hV k hk => HZC.out V (gNx B1.out hV) (i + k) (by omega)))
                go_wp2_with fail
                refine hK.out _ _ (HSS.out _ C1.out B1.out) (fun hH => ?_)
                clear hK K
                try simp only [Act.put, List.setIfInBounds_toArray, List.set_cons_zero, List.set_cons_succ, List.getElem_toArray, List.getElem_cons_succ, List.getElem_cons_zero]
                refine tk 9 (by assumption) rfl (by kernel_rfl) (fun _ _ _ h => h) (fun V hV => by go_simp; try with_reducible rfl) ?_
                try simp only [Act.put, List.setIfInBounds_toArray, List.set_cons_zero, List.set_cons_succ, List.getElem_toArray, List.getElem_cons_succ, List.getElem_cons_zero]
                refine tk 10 (by assumption) rfl (by kernel_rfl) (fun _ _ _ h => h) (fun V hV => by go_simp; try with_reducible rfl) ?_
                try simp only [Act.put, List.setIfInBounds_toArray, List.set_cons_zero, List.set_cons_succ, List.getElem_toArray, List.getElem_cons_succ, List.getElem_cons_zero]
                refine tk 11 (by assumption) rfl (by kernel_rfl) (fun _ _ _ h => h) (fun V hV => by go_simp; try with_reducible rfl) ?_
                try simp only [Act.put, List.setIfInBounds_toArray, List.set_cons_zero, List.set_cons_succ, List.getElem_toArray, List.getElem_cons_succ, List.getElem_cons_zero]
                refine tk 12 (by assumption) rfl (by kernel_rfl) (fun _ _ _ h => h) (fun V hV => by go_simp; try with_reducible rfl) ?_
                try simp only [Act.put, List.setIfInBounds_toArray, List.set_cons_zero, List.set_cons_succ, List.getElem_toArray, List.getElem_cons_succ, List.getElem_cons_zero]
                refine tk 13 (by assumption) rfl (by kernel_rfl) (fun _ _ _ h => h) (fun V hV => by go_simp; try with_reducible rfl) ?_
                try simp only [Act.put, List.setIfInBounds_toArray, List.set_cons_zero, List.set_cons_succ, List.getElem_toArray, List.getElem_cons_succ, List.getElem_cons_zero]
                refine tk 14 (by assumption) rfl (by kernel_rfl) (fun _ _ _ h => h) (fun V hV => by go_simp; try with_reducible rfl) ?_
                try simp only [Act.put, List.setIfInBounds_toArray, List.set_cons_zero, List.set_cons_succ, List.getElem_toArray, List.getElem_cons_succ, List.getElem_cons_zero]
                refine tk 15 (by assumption) rfl (by kernel_rfl) (fun _ _ _ h => h) (fun V hV => by go_simp; try with_reducible rfl) ?_
                try simp only [Act.put, List.setIfInBounds_toArray, List.set_cons_zero, List.set_cons_succ, List.getElem_toArray, List.getElem_cons_succ, List.getElem_cons_zero]
                refine wpAnyH_done (by kernel_rfl) ?_ _
                clear hs0
                have hzci : ¬ zc = i := by have := HZ0.out; have := HLT.out; omega
                go_wp2_with fail
                refine HIP.out.mono ?_
                rintro e V2 ⟨rfl, hb2⟩
                have HB8 := Lib.hid (gNx B1.out hb2)
                clear hb2
                have hadd2 : Ieee.double.add S (qw (lftOf G c zs i)) = some d := by
                  rw [HS2.out, HD.out]
                  obtain ⟨⟨u, m, h1, h2, h3, h4, h5, h6⟩, -, -⟩ := HST.out
                  show Ieee.double.add (qw (n - lftOf G c zs i)) (qw (lftOf G c zs i)) = some (qw n)
                  rcases Nat.eq_zero_or_pos n with h0 | h0
                  · have e0 : lftOf G c zs i = 0 := by omega
                    rw [e0, h0]; exact add_zeros
                  · have h := add_qw (n - lftOf G c zs i) (lftOf G c zs i) (by have := HN.out; omega) (by omega)
                    rw [show n - lftOf G c zs i + lftOf G c zs i = n by omega] at h
                    exact h
                have hfe : (FloatKind.f64.format.order d d != some .eq) = false := by
                  have h := qw_eqB (n := n) (m := n) (by have := HN.out; omega) (by have := HN.out; omega)
                  rw [← HD.out] at h
                  simp [bne, h]
                have e2 := fun w => run_add_some (P := Try.prog) 26 S (qw (lftOf G c zs i)) d hadd2 w
                go_wp2_with fail
                refine ⟨⟨i + 1, congrArg (Value.int .i64) HK1.out.2.2.2, congrArg (Value.float .f64) HS2.out, HK1.out.1, HB8.out⟩, ?_⟩
                show zl - ((i : Int) + 1).toNat < zl - (i : Int).toNat
                rw [HK1.out.2.2.1]
                exact HK1.out.2.1
        · have hnk : ¬ (i : Int) < (zl : Int) := by omega
          have hend : i = zl := by omega
          have HSE2 : Hid (qw (cameTo G c zs n i) = d) := Lib.hid (by
            rw [hend, HD.out, ← HZP.out, show cameTo G c zs n (zp + 1) = n - lftOf G c zs zp from rfl]
            have := HEN.out.2
            rw [← HZP.out, Nat.add_sub_cancel] at this
            rw [this, Nat.sub_zero])
          rw [HSE2.out]
          have hfe : (FloatKind.f64.format.order d d == some .eq) = true := by
            have h := qw_eqB (n := n) (m := n) (by have := HN.out; omega) (by have := HN.out; omega)
            rw [← HD.out] at h
            simp [h]
          clear hlt hend hbel hk
          go_wp2_with fail
          refine (HAW.out wo).mono ?_
          rintro e w5 ⟨rfl, hb5⟩
          have HB9 := Lib.hid (gNx HB1.out (gNx HB2.out (gNx HBO.out hb5)))
          clear hb5
          go_wp2_with fail
          go_ret
          exact ⟨rfl, HB9.out⟩
end Go.Proofs.Ytomcnaghdfhkkaa
end
