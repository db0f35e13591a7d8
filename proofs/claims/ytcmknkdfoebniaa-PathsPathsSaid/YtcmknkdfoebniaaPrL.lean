/- Paths: the program's firstHop and Path; the law of paths. -/
import Derived.Test.YtcmknkdfoebniaaPrI
import Derived.Test.YtcmknkdfoebniaaPrC
import Derived.Test.YtcmknkdfoebniaaPrB
import Derived.Test.YtcmknkdfoebniaaPtG
import Derived.Test.YtcmknkdfoebniaaFl5
import Derived.Test.YtcmknkdfoebniaaPqT
namespace Go.Proofs.Ytcmknkdfoebniaa
open Go.RowKit Go.Lib Go.Fq Go.Pq Go.Iq Go.Nq Go.Ow
set_option linter.unusedVariables false
set_option linter.unusedSimpArgs false
set_option maxRecDepth 100000

/-- How far it is by each road. -/
def sumsF (c : List (Option Nat)) (lim : Nat) (R : List Rd) : List (Option Nat) := R.map (fun r => addO r.2 (g_ c r.1) lim)
theorem sumsF_take {c : List (Option Nat)} {lim : Nat} {R : List Rd} {k : Nat} (h : k < R.length) : dRow (sumsF c lim (R.take (k + 1))) = dRow (sumsF c lim (R.take k)) ++ [.float .f64 (dw (addO R[k].2 (g_ c R[k].1) lim))] := by
  rw [List.take_succ_eq_append_getElem h]
  unfold sumsF dRow
  rw [List.map_append, List.map_append]
  rfl
theorem sumsF_len (c : List (Option Nat)) (lim : Nat) (R : List Rd) : (sumsF c lim R).length = R.length := by unfold sumsF; simp
def fhI (c : List (Option Nat)) (lim : Nat) (R : List Rd) : Int := leastTo ((sumsF c lim R).map dw) R.length
def FhS (V : World) (bb lg tt A q : Nat) : Prop := V.cell? ⟨bb, 0, none⟩ = some (.int .i64 (tt : Int)) ∧ V.cell? ⟨bb, 1, none⟩ = some (.float .f64 q) ∧ V.cell? ⟨lg, tt, none⟩ = some (.float .f64 A)
set_option maxHeartbeats 16000000 in
theorem firstHop_any (nv : Value) (rows : List (List Rd)) (rv : Value) (at_ n lg lc lim : Nat) (c : List (Option Nat)) (w : World) (hnv : nv.oneCell' = true) (h1 : rv.oneCell' = true) (hrd : RdsIn w 0 w.heap.size rows rv) (hat : at_ < rows.length) (hne : 0 < (rows.getD at_ []).length) (hln : (rows.getD at_ []).length ≤ 8192) (hrl : rows.length ≤ 256)
    (hr : ∀ r ∈ rows.getD at_ [], r.1 < n ∧ 0 < r.2 ∧ r.2 ≤ 4294967296) (hl : lim ≤ 4294967296) (hsm : ∀ u, Sm (g_ c u)) (hcc : ∀ V, Below w.heap.size w V → ∀ i, i < n → V.cell? ⟨lg, i, none⟩ = some (.float .f64 (dw (g_ c i)))) (hn : n ≤ 256) :
    Calls Try.prog 41 #[.agg #[nv, rv], .int .i64 (at_ : Int), .slice (some ⟨lg, 0, none⟩) n lc, .float .f64 (qw lim)] w fun e w' => e = .returned (.int .i64 (((rows.getD at_ []).getD (fhI c lim (rows.getD at_ [])).toNat (0, 0)).1 : Int)) ∧ Below w.heap.size w w' := by
  have hst := g_storeL
  obtain ⟨W1, hW1⟩ : ∃ W1, W1 = w.alloc (.cells #[nv, rv] 71) := ⟨_, rfl⟩
  have b1 : Below w.heap.size w W1 := by rw [hW1]; exact gAl _ _
  have s1 : w.heap.size < W1.heap.size := by rw [hW1]; simp
  have r1 : W1.heap[w.heap.size]? = some (.cells #[nv, rv] 71 (0, 0)) := by rw [hW1]; exact heap_alloc_new w _
  obtain ⟨rb, rc, rfl, hrb, hrow⟩ := hrd
  have HB1 := Lib.hid b1
  have HKN : Hid (∀ V, Below W1.heap.size W1 V → V.cell? ⟨w.heap.size, 1, none⟩ = some (.slice (some ⟨rb, 0, none⟩) rows.length rc)) := Lib.hid (fun V hV => (two_cells ((hV.block _ s1).trans r1)).2.1)
  obtain ⟨ra, rcc, hra, hri⟩ := hrow at_ hat
  have e0 : rows.getD at_ [] = rows[at_] := by simp [List.getD_eq_getElem?_getD, hat]
  rw [e0] at hne hln hr ⊢
  generalize rows[at_] = R at *
  rcases hri with hri | ⟨kb, rfl, hkb, hkc⟩
  case inl => subst hri; simp at hne
  have HRA : Hid (∀ V, Below W1.heap.size W1 V → V.cell? ⟨rb, at_, none⟩ = some (.slice (some ⟨kb, 0, none⟩) R.length rcc)) := Lib.hid (fun V hV => ((gNx b1 hV).cell (p := ⟨rb, at_, none⟩) hrb.2).trans hra)
  have HRC : Hid (∀ V, Below W1.heap.size W1 V → ∀ k (hk : k < R.length), V.cell? ⟨kb, k * 2, none⟩ = some (.int .i64 (R[k].1 : Int)) ∧ V.cell? ⟨kb, k * 2 + 1, none⟩ = some (.float .f64 (qw R[k].2))) := Lib.hid (fun V hV k hk => ⟨((gNx b1 hV).cell (p := ⟨kb, k * 2, none⟩) hkb.2).trans (hkc k hk).1, ((gNx b1 hV).cell (p := ⟨kb, k * 2 + 1, none⟩) hkb.2).trans (hkc k hk).2⟩)
  have HCC : Hid (∀ V, Below W1.heap.size W1 V → ∀ i, i < n → V.cell? ⟨lg, i, none⟩ = some (.float .f64 (dw (g_ c i)))) := Lib.hid (fun V hV => hcc V (gNx b1 hV))
  have HSM := Lib.hid hsm
  have HL := Lib.hid hl
  have HR := Lib.hid hr
  have HNE := Lib.hid hne
  have HLN : Hid (R.length ≤ 8192 ∧ rows.length ≤ 256 ∧ n ≤ 256 ∧ at_ < rows.length) := Lib.hid ⟨hln, hrl, hn, hat⟩
  have m1 := HKN.out W1 (Below.refl _ _)
  have m2 := HRA.out W1 (Below.refl _ _)
  have ha1 : (at_ : Int) < (rows.length : Int) := by omega
  have ha0 : (0 : Int) ≤ (at_ : Int) := by omega
  clear b1 s1 r1 hrb hrow hra hkb hkc hcc hsm hl hr hne hln hrl hn e0 hnv
  clear hat h1
  generalize rows.length = rl at *
  go_enter Try.func41, Try.ntmps41
  go_upto_region 1 with (fail)
  rw [← hW1]
  clear hW1
  go_wp2_with fail
  clear m1 m2
  go_loopw [18, 9] (fun i v wr => ∃ k : Nat, i = .int .i64 (k : Int) ∧ k ≤ R.length ∧ Own wr W1.heap.size 26 1 v k (dRow (sumsF c lim (R.take k))) ∧ Below W1.heap.size W1 wr) (fun i _ _ => R.length - (RowKit.intOf i).toNat)
  case atStart => exact ⟨0, rfl, Nat.zero_le _, Or.inl ⟨rfl, rfl, none, rfl⟩, Below.refl _ _⟩
  case round =>
    obtain ⟨k, rfl, hk, ho, hbel⟩ := hrel
    obtain ⟨wo, hwo⟩ : ∃ wo, wo = wr := ⟨_, rfl⟩
    subst hwo
    have HBE := Lib.hid hbel
    by_cases hlt : k < R.length
    · have hlti : (k : Int) < (R.length : Int) := by omega
      have hk0 : (0 : Int) ≤ (k : Int) := by omega
      have hkw : IntKind.i64.wrap ((k : Int) + 1) = (k : Int) + 1 := by rw [IntKind.wrap_i64]; have := HLN.out.1; omega
      have HK1 : Hid (k + 1 ≤ R.length ∧ R.length - (k + 1) < R.length - k ∧ ((k : Int) + 1).toNat = k + 1 ∧ (k : Int) + 1 = ((k + 1 : Nat) : Int) ∧ k < 1048576) := Lib.hid ⟨by omega, by omega, by omega, by omega, by have := HLN.out.1; omega⟩
      obtain ⟨k0, k1⟩ := HRC.out wo hbel k hlt
      obtain ⟨r1, r2, r3⟩ := HR.out _ (List.getElem_mem hlt)
      have HSU := Lib.hid (sumsF_take (c := c) (lim := lim) hlt)
      have HOW := Lib.hid ho
      obtain ⟨al, cl, rfl⟩ := ho.slice
      clear ho hbel
      generalize R[k] = r at *
      obtain ⟨tt, q⟩ := r
      simp only at k0 k1 r1 r2 r3 HSU
      have HQ : Hid (0 < q ∧ q ≤ 4294967296 ∧ tt < n) := Lib.hid ⟨r2, r3, r1⟩
      obtain ⟨S, hS⟩ := dw_some q (g_ c tt) r3 (HSM.out tt) r2
      have HAD : Hid (∀ V, Calls Try.prog 59 #[.float .f64 (qw q), .float .f64 (dw (g_ c tt)), .float .f64 (qw lim)] V fun e w' => e = .returned (.float .f64 (dw (addO q (g_ c tt) lim))) ∧ V = w') := Lib.hid (fun V => by
        have h := add_some (qw q) (dw (g_ c tt)) (qw lim) S V hS
        rw [dw_add q (g_ c tt) lim HQ.out.2.1 (HSM.out tt) HL.out HQ.out.1] at h
        exact h)
      obtain ⟨bb, hbb⟩ : ∃ bb, bb = wo.heap.size := ⟨_, rfl⟩
      obtain ⟨W6, hW6⟩ : ∃ W6, W6 = wo.alloc (.cells #[.int .i64 (tt : Int), .float .f64 (qw q)] 106) := ⟨_, rfl⟩
      have b6 : Below wo.heap.size wo W6 := by rw [hW6]; exact gAl _ _
      have r6 : W6.heap[bb]? = some (.cells #[.int .i64 (tt : Int), .float .f64 (qw q)] 106 (0, 0)) := by rw [hW6, hbb]; exact heap_alloc_new wo _
      have s6 : bb < W6.heap.size := (Array.getElem?_eq_some_iff.1 r6).1
      have HSS : Hid (∀ V, Below W6.heap.size W6 V → FhS V bb lg tt (dw (g_ c tt)) (qw q)) := Lib.hid (fun V hV => by
        have h := two_cells ((hV.block bb s6).trans r6)
        exact ⟨h.1, h.2.1, HCC.out V (gNx HBE.out (gNx b6 hV)) tt HQ.out.2.2⟩)
      have HBX : Hid (bb = wo.heap.size ∧ bb < W6.heap.size) := Lib.hid ⟨hbb, s6⟩
      have HB6 := Lib.hid (gNx HBE.out b6)
      have HO6 := Lib.hid (HOW.out.below b6)
      have HCV : Hid (∀ V, Below W1.heap.size W1 V → V.cell? ⟨lg, tt, none⟩ = some (.float .f64 (dw (g_ c tt)))) := Lib.hid (fun V hV => HCC.out V hV tt HQ.out.2.2)
      have ht1 : (tt : Int) < (n : Int) := by omega
      have ht0 : (0 : Int) ≤ (tt : Int) := by omega
      clear r1 r2 r3 hS r6 s6 b6
      generalize dw (g_ c tt) = da at *
      generalize dw (addO q (g_ c tt) lim) = ds at *
      generalize qw q = dq at *
      go_upto_region 5 with (fail)
      rw [← hW6, ← hbb]
      clear hW6 hbb k0 k1
      refine wp_region_held_drew (S := fun V => FhS V bb lg tt da dq) (by kernel_rfl) (HSS.out _ (Below.drew (Below.refl _ _))) (fun hH => ?_)
      have hs0 := HSS.out _ (Below.drew (Below.refl _ _))
      have B0 : Hid (Below W6.heap.size W6 W6.drew) := Lib.hid (Below.drew (Below.refl _ _))
      generalize W6.drew = V0 at *
      refine tk 0 (by assumption) rfl (by kernel_rfl) (fun _ _ _ h => h) (fun V hV => by go_simp; try with_reducible rfl) ?_
      try simp only [Act.put, List.setIfInBounds_toArray, List.set_cons_zero, List.set_cons_succ, List.getElem_toArray, List.getElem_cons_succ, List.getElem_cons_zero]
      refine tk 1 (by assumption) rfl (by kernel_rfl) (fun _ _ _ h => h) (fun V hV => by go_simp; try with_reducible rfl) ?_
      try simp only [Act.put, List.setIfInBounds_toArray, List.set_cons_zero, List.set_cons_succ, List.getElem_toArray, List.getElem_cons_succ, List.getElem_cons_zero]
      refine tk 2 (by assumption) rfl (by kernel_rfl) (fun _ _ _ h => h) (fun V hV => by obtain ⟨hx0, hx1, hx2⟩ := hV; go_simp; try with_reducible rfl) ?_
      try simp only [Act.put, List.setIfInBounds_toArray, List.set_cons_zero, List.set_cons_succ, List.getElem_toArray, List.getElem_cons_succ, List.getElem_cons_zero]
      refine tk 3 (by assumption) rfl (by kernel_rfl) (fun _ _ _ h => h) (fun V hV => by go_simp; try with_reducible rfl) ?_
      try simp only [Act.put, List.setIfInBounds_toArray, List.set_cons_zero, List.set_cons_succ, List.getElem_toArray, List.getElem_cons_succ, List.getElem_cons_zero]
      refine tk 4 (by assumption) rfl (by kernel_rfl) (fun _ _ _ h => h) (fun V hV => by go_simp; try with_reducible rfl) ?_
      try simp only [Act.put, List.setIfInBounds_toArray, List.set_cons_zero, List.set_cons_succ, List.getElem_toArray, List.getElem_cons_succ, List.getElem_cons_zero]
      refine tk 5 (by assumption) rfl (by kernel_rfl) (fun _ _ _ h => h) (fun V hV => by obtain ⟨hx0, hx1, hx2⟩ := hV; go_simp; try with_reducible rfl) ?_
      try simp only [Act.put, List.setIfInBounds_toArray, List.set_cons_zero, List.set_cons_succ, List.getElem_toArray, List.getElem_cons_succ, List.getElem_cons_zero]
      refine tk 6 (by assumption) rfl (by kernel_rfl) (fun _ _ _ h => h) (fun V hV => by go_simp; try with_reducible rfl) ?_
      try simp only [Act.put, List.setIfInBounds_toArray, List.set_cons_zero, List.set_cons_succ, List.getElem_toArray, List.getElem_cons_succ, List.getElem_cons_zero]
      refine tk 7 (by assumption) rfl (by kernel_rfl) (fun _ _ _ h => h) (fun V hV => by obtain ⟨hx0, hx1, hx2⟩ := hV; go_simp; try with_reducible rfl) ?_
      try simp only [Act.put, List.setIfInBounds_toArray, List.set_cons_zero, List.set_cons_succ, List.getElem_toArray, List.getElem_cons_succ, List.getElem_cons_zero]
      refine tk 8 (by assumption) rfl (by kernel_rfl) (fun _ _ _ h => h) (fun V hV => by go_simp; try with_reducible rfl) ?_
      try simp only [Act.put, List.setIfInBounds_toArray, List.set_cons_zero, List.set_cons_succ, List.getElem_toArray, List.getElem_cons_succ, List.getElem_cons_zero]
      refine wpAnyH_ready (rs := [9]) (by kernel_rfl) (by simp) ?_
      refine AllReadyH.cons (o := _) rfl (fun K hK => ?_) AllReadyH.nil
      go_simp
      refine (HAD.out V0).mono ?_
      rintro e w' ⟨rfl, rfl⟩
      go_wp2_with fail
      refine hK.out _ _ hs0 (fun hH => ?_)
      clear hK K
      try simp only [Act.put, List.setIfInBounds_toArray, List.set_cons_zero, List.set_cons_succ, List.getElem_toArray, List.getElem_cons_succ, List.getElem_cons_zero]
      refine wpAnyH_ready (rs := [10]) (by kernel_rfl) (by simp) ?_
      refine AllReadyH.cons (o := _) rfl (fun K hK => ?_) AllReadyH.nil
      go_simp
      obtain ⟨V3, hV3⟩ : ∃ V3, V3 = V0.alloc (.cells #[.float .f64 ds] 26) := ⟨_, rfl⟩
      rw [← hV3]
      have B3 : Hid (Below W6.heap.size W6 V3) := Lib.hid (by rw [hV3]; exact gNx B0.out (gAl _ _))
      have HV3 : Hid (V3.heap[V0.heap.size]? = some (.cells #[.float .f64 ds] 26 (0, 0))) := Lib.hid (by rw [hV3]; exact heap_alloc_new V0 _)
      clear hV3
      refine hK.out _ _ (HSS.out _ B3.out) (fun hH => ?_)
      clear hK K
      try simp only [Act.put, List.setIfInBounds_toArray, List.set_cons_zero, List.set_cons_succ, List.getElem_toArray, List.getElem_cons_succ, List.getElem_cons_zero]
      refine wpAnyH_ready (rs := [11]) (by kernel_rfl) (by simp) ?_
      refine AllReadyH.cons (o := _) rfl (fun K hK => ?_) AllReadyH.nil
      have hbase : W1.heap.size ≤ V3.heap.size := (gNx HB6.out B3.out).size
      obtain ⟨v2, W2, hrun, hrow, hkq⟩ := own_app (P := Try.prog) (vb := V0.heap.size) (vs := [.float .f64 ds]) Try.underlying27 flInfo rfl (HO6.out.below B3.out) hbase HV3.out rfl (by intro v hv; rw [List.mem_singleton] at hv; rw [hv]; rfl) (by have := HK1.out.2.2.2.2; omega) (by have := HK1.out.2.2.2.2; omega)
      obtain ⟨va2, vc2, rfl⟩ := hrow.slice
      have HRW : Hid (Own W2 W1.heap.size 26 1 (.slice va2 (k + 1) vc2) (k + 1) (dRow (sumsF c lim (R.take (k + 1))))) := Lib.hid (by rw [HSU.out]; exact hrow)
      have HKQ := Lib.hid (Kq.below2 hkq (HO6.out.below B3.out) hbase)
      have HBB : Hid (Below W1.heap.size W1 W2) := Lib.hid ((gNx HB6.out B3.out).trans HKQ.out)
      have HR2 := Lib.hid hrun
      have HS2 : Hid (FhS W2 bb lg tt da dq) := Lib.hid (by
        have hbk : W2.heap[bb]? = V3.heap[bb]? := (hkq (bb + 1)).block bb (Nat.lt_of_lt_of_le HBX.out.2 B3.out.size) (by omega) (fun n' c' e => by
          rcases HOW.out with ⟨-, -, a, h⟩ | ⟨g, cap, cur, h, -, hg, -⟩
          · have := h.symm.trans e
            simp only [Value.slice.injEq] at this
            omega
          · have := h.symm.trans e
            simp only [Value.slice.injEq, Option.some.injEq, Addr.mk.injEq, and_true, true_and] at this
            have hlt := (Array.getElem?_eq_some_iff.1 hg).1
            have := HBX.out.1
            omega)
        have h3 := HSS.out _ B3.out
        exact ⟨(World.cell?_of_block hbk).trans h3.1, (World.cell?_of_block hbk).trans h3.2.1, HCV.out W2 HBB.out⟩)
      clear hrun hrow hkq hbase
      refine step_append_r rfl _ _ 27 27 rfl (.slice al k cl) (.slice (some ⟨V0.heap.size, 0, none⟩) 1 1) (by simp [Act.eval, Act.put]) (by simp [Act.eval, Act.put]) (HR2.out _) ?_
      refine hK.out _ _ HS2.out (fun hH => ?_)
      clear hK K HR2
      try simp only [Act.put, List.setIfInBounds_toArray, List.set_cons_zero, List.set_cons_succ, List.getElem_toArray, List.getElem_cons_succ, List.getElem_cons_zero]
      refine tk 12 (by assumption) rfl (by kernel_rfl) (fun _ _ _ h => h) (fun V hV => by go_simp; try with_reducible rfl) ?_
      try simp only [Act.put, List.setIfInBounds_toArray, List.set_cons_zero, List.set_cons_succ, List.getElem_toArray, List.getElem_cons_succ, List.getElem_cons_zero]
      refine wpAnyH_done (by kernel_rfl) ?_ _
      go_wp2_with fail
      refine ⟨⟨k + 1, congrArg (Value.int .i64) HK1.out.2.2.2.1, HK1.out.1, HRW.out, HBB.out⟩, ?_⟩
      show R.length - ((k : Int) + 1).toNat < R.length - (k : Int).toNat
      rw [HK1.out.2.2.1]
      exact HK1.out.2.1
    · have hnk : ¬ (k : Int) < (R.length : Int) := by omega
      have hke : k = R.length := by omega
      rw [hke] at ho
      rw [List.take_length] at ho
      obtain ⟨g, cap, rfl, hcells⟩ := own1_cell ho HNE.out
      obtain ⟨l2, l3, l4⟩ := leastTo_bd ((sumsF c lim R).map dw) R.length
      obtain ⟨M, hM⟩ := Int.eq_ofNat_of_zero_le (l4 HNE.out)
      have hML : M < R.length := by omega
      have HLQ : Hid (∀ q, Calls Try.prog 60 #[.slice (some ⟨g, 0, none⟩) R.length cap] (wo.drewN q) fun e w' => e = .returned (.int .i64 (M : Int)) ∧ w' = wo.drewN q) := Lib.hid (fun q => by
        have h := least_row g 0 R.length cap ((sumsF c lim R).map dw) (wo.drewN q) (by have := HLN.out.1; omega) (fun i hi => by
          have h1 := hcells i hi _ (dRow_at (by rw [sumsF_len]; exact hi))
          have e : ((sumsF c lim R).map dw).getD i 0 = dw (g_ (sumsF c lim R) i) := by
            have hi2 : i < (sumsF c lim R).length := by rw [sumsF_len]; exact hi
            unfold g_
            simp [List.getD_eq_getElem?_getD, hi2]
          rw [e, Nat.zero_add]
          simpa using h1)
        rw [hM] at h
        exact h.mono (fun _ _ hh => ⟨hh.1, hh.2.symm⟩))
      have HFI : Hid (((R.getD (fhI c lim R).toNat (0, 0)).1 : Int) = (R[M].1 : Int)) := Lib.hid (by
        unfold fhI
        rw [hM]
        simp [List.getD_eq_getElem?_getD, hML])
      obtain ⟨q0, -⟩ := HRC.out wo HBE.out M hML
      have m1 := HKN.out wo HBE.out
      have m2 := HRA.out wo HBE.out
      have hmi : (M : Int) < (R.length : Int) := by omega
      have hm0 : (0 : Int) ≤ (M : Int) := by omega
      have HBW := Lib.hid (gNx HB1.out HBE.out)
      clear hbel hke hlt hk ho hcells l2 l3 l4 hM
      generalize (R[M].1 : Int) = res at *
      clear hML
      go_upto_region 7 with (fail)
      go_quiet ((go_at_call 60; exact Calls.quiet_of_same (HLQ.out _)))
      go_wp2_with fail
      refine bodyPost_ret (v := .int .i64 res) (by simp [results, Try.results41, go_sem]) rfl ?_
      have hfi := HFI.out
      rw [List.getD_eq_getElem?_getD] at hfi
      exact ⟨by rw [hfi], Go.Iq.below_drewN HBW.out _⟩
end Go.Proofs.Ytcmknkdfoebniaa

namespace Go.Proofs.Ytcmknkdfoebniaa
open Go.RowKit Go.Lib Go.Fq Go.Pq Go.Iq Go.Nq Go.Ow
set_option linter.unusedVariables false
set_option linter.unusedSimpArgs false
set_option maxRecDepth 100000

set_option maxHeartbeats 16000000 in
theorem pPath_any (G : Gr) (na : Option Addr) (nc : Nat) (la : Option Addr) (lc : Nat) (max : Nat) (fr tz : Int) (w : World) (hin : GrIn w G na la) (hm : max < 2 ^ 64) :
    Calls Try.prog 18 #[.agg #[.slice na G.nodes.length nc, .slice la G.links.length lc], .float .f64 max, .int .i64 fr, .int .i64 tz] w fun e w' => PathEnds w G (askE G max [fr, tz]) (Nq.ahead G.nodes fr) (Nq.ahead G.nodes tz) (qn max) e w' := by
  have hst := g_storeL
  obtain ⟨W1, hW1⟩ : ∃ W1, W1 = w.alloc (.cells #[.slice na G.nodes.length nc, .slice la G.links.length lc] 25) := ⟨_, rfl⟩
  have b1 : Below w.heap.size w W1 := by rw [hW1]; exact gAl _ _
  have r1 : W1.heap[w.heap.size]? = some (.cells #[.slice na G.nodes.length nc, .slice la G.links.length lc] 25 (0, 0)) := by rw [hW1]; exact heap_alloc_new w _
  obtain ⟨g0, g1, -, -⟩ := two_cells r1
  obtain ⟨W2, hW2⟩ : ∃ W2, W2 = W1.alloc (.cells #[.int .i64 fr, .int .i64 tz] 3) := ⟨_, rfl⟩
  have b2 : Below W1.heap.size W1 W2 := by rw [hW2]; exact gAl _ _
  have r2 : W2.heap[W1.heap.size]? = some (.cells #[.int .i64 fr, .int .i64 tz] 3 (0, 0)) := by rw [hW2]; exact heap_alloc_new W1 _
  have HB2 : Hid (Below w.heap.size w W2) := Lib.hid (gNx b1 b2)
  have HG : Hid (∀ V, Below w.heap.size w V → GrIn V G na la) := Lib.hid (fun V hV => hin.below hV)
  have hii : IsInts W2 (some ⟨W1.heap.size, 0, none⟩) [fr, tz].length [fr, tz] := ⟨rfl, fun _ => ⟨_, _, rfl, fun i hi => by
    have : i = 0 ∨ i = 1 := by simp only [List.length_cons, List.length_nil] at hi; omega
    rcases this with rfl | rfl
    · rw [cell_of_row W2 _ _ _ _ (0, 0) r2]; rfl
    · rw [cell_of_row W2 _ _ _ _ (0, 0) r2]; rfl⟩⟩
  have HNF := Lib.hid (netFor_any G na nc la lc max (some ⟨W1.heap.size, 0, none⟩) 2 [fr, tz] W2 (hin.below (gNx b1 b2)) hm hii (by simp))
  simp only [List.length_cons, List.length_nil] at HNF
  have HM := Lib.hid hm
  have HWT := Lib.hid hin.wts
  clear hin b1 r1 b2 r2 hii hm
  go_enter Try.func18, Try.ntmps18
  go_upto_region 1 with (fail)
  rw [← hW1]
  clear hW1
  go_wp2_with fail
  rw [← hW2]
  clear hW2
  refine HNF.out.mono ?_
  rintro e w3 (⟨hne, rfl, hb3⟩ | ⟨hE, rb, rc, rfl, hrd, hb3⟩)
  · have HNE := Lib.hid hne
    have HB3 := Lib.hid (gNx HB2.out hb3)
    obtain ⟨E, hEE⟩ : ∃ E, E = askE G max [fr, tz] := ⟨_, rfl⟩
    have HEE := Lib.hid hEE
    rw [← hEE] at hne HNE ⊢
    have hz2 : (E != 0) = true := by simpa using hne
    clear hne hb3 g0 g1 hEE
    go_wp2_with fail
    refine bodyPost_ret (v := .tuple #[.slice none 0 0, .float .f64 0, .int .i64 E]) (by simp [results, Try.results18, go_sem]) rfl ?_
    rw [← HEE.out]
    exact Or.inl ⟨HNE.out, rfl, gNx HB3.out (gAl _ _)⟩
  · obtain ⟨a1, a2, a3⟩ := askE_zero hE
    have HE := Lib.hid hE
    have HZ := Lib.hid a2
    have hh : has G.nodes fr = true ∧ has G.nodes tz = true := by simpa using a3
    obtain ⟨lim, l1, l2, l3⟩ := limit_q max HM.out a1
    subst l3
    have HQ : Hid (qn (qw lim) = lim) := Lib.hid (qn_qw (by omega))
    have HLIM : Hid (0 < lim ∧ lim ≤ 4294967296) := Lib.hid ⟨by omega, l2⟩
    obtain ⟨n1, n2, n3, n4⟩ := check_zero.1 a2
    have HNP := Lib.hid n3
    have HNL : Hid (G.nodes.length ≤ 256 ∧ G.links.length ≤ 4096) := Lib.hid ⟨n1, n2⟩
    have HPL : Hid (Nq.ahead G.nodes fr < G.nodes.length) := Lib.hid ((has_at n3 fr).1 hh.1).1
    have HPT : Hid (Nq.ahead G.nodes tz < G.nodes.length) := Lib.hid ((has_at n3 tz).1 hh.2).1
    have HH := Lib.hid hh
    have HFI : Hid ((idf G.nodes (Nq.ahead G.nodes fr) : Int) = fr) := Lib.hid (id_at n3 hh.1).1
    have HRD := Lib.hid hrd
    have HB3 : Hid (Below w.heap.size w w3) := Lib.hid (gNx HB2.out hb3)
    clear a1 a2 a3 l1 l2 hE hrd hb3 hh g0 g1 HNF n1 n2 n3 n4
    obtain ⟨W4, hW4⟩ : ∃ W4, W4 = w3.alloc (.cells #[.slice na G.nodes.length nc, .slice (some ⟨rb, 0, none⟩) G.nodes.length rc] 71) := ⟨_, rfl⟩
    have hb4 : Below w3.heap.size w3 W4 := by rw [hW4]; exact gAl _ _
    have r4 : W4.heap[w3.heap.size]? = some (.cells #[.slice na G.nodes.length nc, .slice (some ⟨rb, 0, none⟩) G.nodes.length rc] 71 (0, 0)) := by rw [hW4]; exact heap_alloc_new w3 _
    obtain ⟨nb, hnb⟩ : ∃ nb, nb = w3.heap.size := ⟨_, rfl⟩
    rw [← hnb] at r4
    have hs4 : nb < W4.heap.size := (Array.getElem?_eq_some_iff.1 r4).1
    have HNB : Hid (∀ V, Below W4.heap.size W4 V → V.cell? ⟨nb, 0, none⟩ = some (.slice na G.nodes.length nc) ∧ V.cell? ⟨nb, 1, none⟩ = some (.slice (some ⟨rb, 0, none⟩) G.nodes.length rc)) := Lib.hid (fun V hV => by
      have := two_cells ((hV.block nb hs4).trans r4)
      exact ⟨this.1, this.2.1⟩)
    have HB4 : Hid (Below w.heap.size w W4) := Lib.hid (gNx HB3.out hb4)
    have HRD4 : Hid (∀ V, Below W4.heap.size W4 V → RdsIn V 0 V.heap.size (netL G.nodes (liveG G).links) (.slice (some ⟨rb, 0, none⟩) G.nodes.length rc)) := Lib.hid (fun V hV => ((HRD.out.below hb4).below hV).low (Nat.zero_le _))
    go_upto_region 4 with (fail)
    rw [← hW4, ← hnb]
    clear hW4 hnb hb4 r4 hs4
    obtain ⟨m0, m1⟩ := HNB.out W4 (Below.refl _ _)
    go_wp2_with fail
    refine (pPlace_any G.nodes na nc (.slice (some ⟨rb, 0, none⟩) G.nodes.length rc) fr W4 (HG.out W4 HB4.out).nodes HNP.out (by have := HNL.out; omega) rfl).mono ?_
    rintro e w5 ⟨rfl, hb5⟩
    rw [HH.out.1]
    have HB5 := Lib.hid hb5
    clear hb5 m0 m1
    obtain ⟨m0, m1⟩ := HNB.out w5 HB5.out
    obtain ⟨s, hsE⟩ : ∃ s, s = Nq.ahead G.nodes fr := ⟨_, rfl⟩
    have HSE := Lib.hid hsE
    rw [← hsE] at HPL HFI ⊢
    clear hsE
    go_wp2_with fail
    refine (pPlace_any G.nodes na nc (.slice (some ⟨rb, 0, none⟩) G.nodes.length rc) tz w5 (HG.out w5 (gNx HB4.out HB5.out)).nodes HNP.out (by have := HNL.out; omega) rfl).mono ?_
    rintro e w6 ⟨rfl, hb6⟩
    rw [HH.out.2]
    have HB6 := Lib.hid (gNx HB5.out hb6)
    clear hb6 m0 m1
    obtain ⟨m0, m1⟩ := HNB.out w6 HB6.out
    obtain ⟨t, htE⟩ : ∃ t, t = Nq.ahead G.nodes tz := ⟨_, rfl⟩
    have HTE := Lib.hid htE
    rw [← htE] at HPT ⊢
    clear htE
    obtain ⟨W6, hW6⟩ : ∃ W6, W6 = w6.alloc (.cells #[.slice none 0 0] 80) := ⟨_, rfl⟩
    have hb6 : Below w6.heap.size w6 W6 := by rw [hW6]; exact gAl _ _
    have HBW6 : Hid (Below W4.heap.size W4 W6) := Lib.hid (gNx HB6.out hb6)
    have HWK := Lib.hid (walk_any G na nc (.slice (some ⟨rb, 0, none⟩) G.nodes.length rc) t lim w6.heap.size W6 HZ.out HWT.out rfl ((HG.out w6 (gNx HB4.out HB6.out)).nodes.kept (fun i hi => hb6.block i hi) (Nat.le_refl _)) ((HRD4.out w6 HB6.out).kept (fun i _ hi => hb6.block i hi) (Nat.le_refl _) (Nat.le_refl _)) HPT.out HLIM.out.1 HLIM.out.2 (by rw [hW6]; exact heap_alloc_new w6 _))
    have HQS : Hid (W4.heap.size ≤ w6.heap.size ∧ w6.heap.size < W6.heap.size) := Lib.hid ⟨HB6.out.size, by rw [hW6]; simp⟩
    clear hb6
    go_wp2_with fail
    rw [← hW6]
    clear hW6
    refine HWK.out.mono ?_
    rintro e w7 ⟨D, sb, rfl, ho, hbx, hsp⟩
    have HB7 : Hid (Below W4.heap.size W4 w7) := Lib.hid (HBW6.out.trans (hbx.below (Nat.le_of_lt (Nat.lt_of_le_of_lt HQS.out.1 HQS.out.2)) HQS.out.1))
    have HDF := Lib.hid (distsOf_any G.nodes.length sb _ D w7 ho hsp.1 HNL.out.1)
    have HDP := Lib.hid hsp.dists
    clear ho hbx hsp m0 m1 HWK
    go_wp2_with fail
    refine HDF.out.mono ?_
    rintro e w8 ⟨lg, rfl, ho8, hb8⟩
    have HB8 := Lib.hid (gNx HB7.out hb8)
    obtain ⟨c, hc⟩ : ∃ c, c = dOf D := ⟨_, rfl⟩
    rw [← hc] at ho8 HDP
    obtain ⟨lg', dc, hve, hcc⟩ := row_cells2 ho8 HDP.out.1 (by have := HPL.out; omega)
    simp only [Value.slice.injEq, Option.some.injEq, Addr.mk.injEq, and_true, true_and] at hve
    obtain ⟨rfl, -⟩ := hve
    have HCC := Lib.hid hcc
    have HSM : Hid (∀ u, Sm (g_ c u)) := Lib.hid (fun u => HDP.out.sm HLIM.out.2 u)
    clear hb8 ho8 hcc hc HDF
    have c8 := HCC.out w8 (Below.refl _ _) s HPL.out
    have hsl : (s : Int) < (G.nodes.length : Int) := by have := HPL.out; omega
    have hs00 : (0 : Int) ≤ (s : Int) := by omega
    have HBW8 : Hid (Below w.heap.size w w8) := Lib.hid (gNx HB4.out HB8.out)
    cases hq : g_ c s with
    | none =>
      have HIF := Lib.hid (fun V => tooFar_any (g_ c s) (HSM.out s) V)
      rw [hq] at c8 HIF
      have HQ2 := Lib.hid hq
      clear hq
      obtain ⟨d, hd⟩ : ∃ d, d = dw none := ⟨_, rfl⟩
      have HD := Lib.hid hd
      rw [← hd] at c8 HIF
      clear hd
      go_wp2_with (go_at_call 40; refine (HIF.out _).mono ?_; rintro e w' ⟨rfl, rfl⟩)
      refine bodyPost_ret (v := .tuple #[.slice none 0 0, .float .f64 d, .int .i64 0]) (by simp [results, Try.results18, go_sem]) rfl ?_
      rw [← HSE.out, ← HTE.out, HQ.out]
      exact Or.inr ⟨HE.out, c, HDP.out, HBW8.out, Or.inl ⟨HQ2.out, by rw [HD.out]⟩⟩
    | some n =>
      have HIF := Lib.hid (fun V => tooFar_any (g_ c s) (HSM.out s) V)
      have HN : Hid (n ≤ 4294967296) := Lib.hid (by have := HSM.out s; rw [hq] at this; exact this)
      rw [hq] at c8 HIF
      have HQ2 := Lib.hid hq
      clear hq
      obtain ⟨d, hd⟩ : ∃ d, d = dw (some n) := ⟨_, rfl⟩
      have HD := Lib.hid hd
      rw [← hd] at c8 HIF
      clear hd
      obtain ⟨W9, hW9⟩ : ∃ W9, W9 = w8.alloc (.cells #[.int .i64 fr] 3) := ⟨_, rfl⟩
      have B9 : Hid (Below w8.heap.size w8 W9) := Lib.hid (by rw [hW9]; exact gAl _ _)
      have HO9 : Hid (Own W9 w8.heap.size 3 1 (.slice (some ⟨w8.heap.size, 0, none⟩) 1 1) [fr].length (iRow [fr])) := Lib.hid (by
        have := own_fE w8 (fun _ => .int .i64 fr) (.int .i64 fr) 3 1 (by omega)
        rw [hW9]
        exact this)
      obtain ⟨ob, hob⟩ : ∃ ob, ob = w8.heap.size := ⟨_, rfl⟩
      have HOB := Lib.hid hob
      obtain ⟨FULL, hfull⟩ : ∃ FULL, FULL = (idf G.nodes s : Int) :: pathL G t c (n + 1) s := ⟨_, rfl⟩
      have HFU := Lib.hid hfull
      have HFL : Hid (FULL.length ≤ 4294967298) := Lib.hid (by rw [hfull]; have := pathL_len G t c (n + 1) s; have := HN.out; simp only [List.length_cons]; omega)
      go_upto_region 11 with (go_at_call 40; refine (HIF.out _).mono ?_; rintro e w' ⟨rfl, rfl⟩)
      rw [← hW9]
      rw [← hob] at HO9 ⊢
      clear hW9 c8 HIF hsl hs00 hob hfull
      go_wp2_with fail
      go_loopw [13, 19] (fun at_ v wr => ∃ u f m : Nat, ∃ zs : List Int, at_ = .int .i64 (u : Int) ∧ u < G.nodes.length ∧ g_ c u = some m ∧ m < f ∧ zs ++ pathL G t c f u = FULL ∧ Own wr ob 3 1 v zs.length (iRow zs) ∧ Below w8.heap.size w8 wr) (fun at_ _ _ => (g_ c (RowKit.intOf at_).toNat).getD 0)
      case atStart => exact ⟨s, n + 1, n, [fr], rfl, HPL.out, HQ2.out, by omega, by rw [HFU.out, HFI.out]; rfl, HO9.out, B9.out⟩
      case round =>
        obtain ⟨u, f, m, zs, rfl, hu, hmm, hmf, hful, ho, hbel⟩ := hrel
        have HBE := Lib.hid hbel
        have HB9 := Lib.hid (gNx HB8.out hbel)
        by_cases hut : u = t
        · have e0 : ((u : Int) != (t : Int)) = false := by rw [hut]; simp
          rw [hut, pathL_end, List.append_nil] at hful
          have HOW : Hid (Own wr w.heap.size 3 1 u19 FULL.length (iRow FULL)) := Lib.hid (by rw [← hful]; exact ho.mono (by have := HOB.out; have := HBW8.out.size; omega))
          have HBW := Lib.hid (gNx HBW8.out HBE.out)
          clear hut hful ho hbel hmm hmf hu
          go_wp2_with fail
          refine bodyPost_ret (v := .tuple #[u19, .float .f64 d, .int .i64 0]) (by simp [results, Try.results18, go_sem]) rfl ?_
          rw [← HSE.out, ← HTE.out, HQ.out]
          exact Or.inr ⟨HE.out, c, HDP.out, HBW.out, Or.inr ⟨n, u19, HQ2.out, by rw [HD.out], by rw [← HFU.out]; exact HOW.out⟩⟩
        · have e0 : ((u : Int) != (t : Int)) = true := by simp; omega
          obtain ⟨a, m', f', p1, p2, p3, p4, p5, p6⟩ := pathL_step HZ.out HWT.out HDP.out hu hmm hut hmf
          obtain ⟨M, hM, q1, q2⟩ := fh_best HZ.out HWT.out HDP.out HLIM.out.2 hu hmm hut
          rw [p1] at q2
          have hR : (netL G.nodes (liveG G).links).getD u [] = rds G.nodes (liveG G).links u := netL_at _ hu
          have hto : ((((netL G.nodes (liveG G).links).getD u []).getD (fhI c lim ((netL G.nodes (liveG G).links).getD u [])).toNat (0, 0)).1 : Int) = (a : Int) := by
            rw [hR]
            unfold fhI sumsF
            rw [q1]
            simp only [Int.toNat_natCast, List.getD_eq_getElem?_getD, List.getElem?_eq_getElem hM, Option.getD_some]
            have hrl : (rds G.nodes (liveG G).links u)[M].1 < G.nodes.length := (road_bd HZ.out HWT.out (show Pq.Road G u _ _ from List.getElem_mem hM)).2.1
            have z1 := (aheadOf HNP.out hrl).2
            have z2 := (aheadOf HNP.out p2).2
            rw [q2] at z1
            rw [← z1, z2]
          have HFH : Hid (Calls Try.prog 41 #[.agg #[.slice na G.nodes.length nc, .slice (some ⟨rb, 0, none⟩) G.nodes.length rc], .int .i64 (u : Int), .slice (some ⟨lg, 0, none⟩) G.nodes.length G.nodes.length, .float .f64 (qw lim)] wr fun e w' => e = .returned (.int .i64 (a : Int)) ∧ Below wr.heap.size wr w') := Lib.hid (by
            have h := firstHop_any (.slice na G.nodes.length nc) (netL G.nodes (liveG G).links) (.slice (some ⟨rb, 0, none⟩) G.nodes.length rc) u G.nodes.length lg G.nodes.length lim c wr rfl rfl (HRD4.out wr HB9.out) (by rw [netL_len]; exact hu) (by rw [hR]; omega) (by have := deg_one G.nodes (liveG G).links u; have h2 : (liveG G).links.length ≤ G.links.length := List.length_filter_le _ _; have := HNL.out.2; omega) (by rw [netL_len]; exact HNL.out.1) (fun r hr => by rw [hR] at hr; have := road_bd HZ.out HWT.out (show Pq.Road G u r.1 r.2 from hr); omega) HLIM.out.2 HSM.out (fun V hV => HCC.out V (gNx HBE.out hV)) HNL.out.1
            rw [hto] at h
            exact h)
          rw [p6] at hful
          have hzl : zs.length ≤ 4294967298 := by
            have := congrArg List.length hful
            have := HFL.out
            simp only [List.length_append, List.length_cons] at *
            omega
          have HZL := Lib.hid hzl
          have HOW := Lib.hid ho
          have HNEW : Hid (a < G.nodes.length ∧ g_ c a = some m' ∧ m' < f' ∧ (zs ++ [(idf G.nodes a : Int)]) ++ pathL G t c f' a = FULL ∧ m' < m) := Lib.hid ⟨p2, p3, p5, by rw [← hful]; simp, p4⟩
          have HME : Hid ((g_ c u).getD 0 = m ∧ (g_ c a).getD 0 = m') := Lib.hid ⟨by rw [hmm]; rfl, by rw [p3]; rfl⟩
          obtain ⟨al, cl, rfl⟩ := ho.slice
          obtain ⟨m0, m1⟩ := HNB.out wr HB9.out
          have hai : (a : Int) < (G.nodes.length : Int) := by omega
          have ha0 : (0 : Int) ≤ (a : Int) := by omega
          clear hut hful ho hbel hmm hmf hu p1 p3 p4 p5 p6 hzl q1 q2 hR hto hM
          go_wp2_with fail
          refine HFH.out.mono ?_
          rintro e w10 ⟨rfl, hb10⟩
          have HB10 := Lib.hid (gNx HB9.out hb10)
          clear m0 m1
          obtain ⟨m0, m1⟩ := HNB.out w10 HB10.out
          obtain ⟨b, o, hna, hbb, hcn⟩ := (HG.out w10 (gNx HB4.out HB10.out)).nodes.at a p2
          obtain ⟨ni, -⟩ := hcn a p2
          rw [(idf_is HNP.out p2).1] at ni
          obtain ⟨y, hy⟩ : ∃ y, y = (idf G.nodes a : Int) := ⟨_, rfl⟩
          rw [← hy] at ni HNEW
          obtain ⟨W8, hW8⟩ : ∃ W8, W8 = w10.alloc (.cells #[.int .i64 y] 3) := ⟨_, rfl⟩
          have b8 : Below w10.heap.size w10 W8 := by rw [hW8]; exact gAl _ _
          have r8 : W8.heap[w10.heap.size]? = some (.cells #[.int .i64 y] 3 (0, 0)) := by rw [hW8]; exact heap_alloc_new w10 _
          have b78 := gNx hb10 b8
          have hbase : ob ≤ W8.heap.size := by have := HOB.out; have := (gNx HBE.out b78).size; omega
          obtain ⟨v2, Wn, hrun, hrow, hkq⟩ := own_app (P := Try.prog) (vb := w10.heap.size) (vs := [.int .i64 y]) Try.underlying34 inInfo rfl (HOW.out.below b78) hbase r8 rfl (by intro v hv; rw [List.mem_singleton] at hv; rw [hv]; rfl) (by have := HZL.out; omega) (by have := HZL.out; omega)
          obtain ⟨va2, vc2, rfl⟩ := hrow.slice
          have HRW : Hid (Own Wn ob 3 1 (.slice va2 (zs.length + 1) vc2) (zs ++ [y]).length (iRow (zs ++ [y]))) := Lib.hid (by rw [iRow_snoc, List.length_append]; exact hrow)
          have HBB : Hid (Below w8.heap.size w8 Wn) := Lib.hid ((gNx HBE.out b78).trans (by have h := Kq.below2 hkq (HOW.out.below b78) hbase; rw [HOB.out] at h; exact h))
          rw [hW8] at hrun
          have HR := Lib.hid hrun
          clear hrun hrow hkq hbase b8 r8 b78 hb10 hW8 e0 hcn hbb hy
          generalize zs.length = zl at *
          subst hna
          go_wp2_with (at_builtin; refine Lib.wpList_append_run _ rfl _ _ _ _ rfl _ _ rfl rfl _ _ (HR.out _) ?_)
          refine ⟨⟨a, f', m', zs ++ [y], rfl, HNEW.out.1, HNEW.out.2.1, HNEW.out.2.2.1, HNEW.out.2.2.2.1, HRW.out, HBB.out⟩, ?_⟩
          show (g_ c ((a : Int).toNat)).getD 0 < (g_ c ((u : Int).toNat)).getD 0
          rw [Int.toNat_natCast, Int.toNat_natCast, HME.out.1, HME.out.2]
          exact HNEW.out.2.2.2.2
section
variable {H : Type} {enc : TypeId × Value → H} {w W : World} {spare : Nat → Bool} {held : Bool} {r : Reach} {b0 : Nat}
theorem gin_i642 {v : Value} {d : DataW H} {ps : List MemPlace} (hv : Value.okWide Try.prog W r b0 38 v) (h : DataW.Trod enc Try.prog w 0 spare held 38 v d ps) : ∃ x y : Int, v = .agg #[.int .i64 x, .int .i64 y] ∧ True ∧ True := by
  unfold Value.okWide at hv
  rw [Try.underlying38] at hv
  obtain ⟨cs, rfl, hcs, -⟩ := hv
  obtain ⟨fuel, hf⟩ := h
  obtain ⟨xs, m, rfl, hx, hcl, hxl, hat⟩ := DataW.trod_array Try.underlying38 hf
  have hct : Try.prog.cellsOf 38 = 2 := by kernel_rfl
  have hcl2 : cs.size = 2 := by omega
  have hsz : (Value.agg cs).cells = cs := rfl
  rw [hsz] at hat
  obtain ⟨v0, v1, rfl⟩ : ∃ v0 v1, cs = #[v0, v1] := by
    obtain ⟨l⟩ := cs
    match l, hcl2 with
    | [v0, v1], _ => exact ⟨v0, v1, rfl⟩
  match xs, hxl with
  | [x0, x1], _ =>
    have h0 := hat 0 (by omega)
    have h1 := hat 1 (by omega)
    have gcI : Try.prog.cellsOf 3 = 1 := by kernel_rfl
    simp [gcI] at h0 h1
    obtain ⟨a0, rfl, -⟩ := gin_int h0
    obtain ⟨a1, rfl, -⟩ := gin_int h1
    exact ⟨a0, a1, rfl, trivial, trivial⟩
end
set_option maxHeartbeats 8000000 in
theorem ints_same2 (b1 b2 : Nat) (va vb : Value) (zs : List Int) (w : World) (ha : Own w b1 3 1 va zs.length (iRow zs)) (hb : Own w b2 3 1 vb zs.length (iRow zs)) (hn : zs.length < 4611686018427387904) :
    Calls Try.prog 17 #[va, vb] w fun e w' => e = .returned (.bool true) ∧ Below w.heap.size w w' := by
  obtain ⟨a1, c1, rfl⟩ := ha.slice
  obtain ⟨a2, c2, rfl⟩ := hb.slice
  have HA := Lib.hid (fun V (hV : Below w.heap.size w V) => ha.below hV)
  have HB := Lib.hid (fun V (hV : Below w.heap.size w V) => hb.below hV)
  have HN := Lib.hid hn
  have HG : Hid (∀ k, k < zs.length → (iRow zs)[k]? = some (.int .i64 (zs.getD k 0))) := Lib.hid (fun k hk => by unfold iRow; simp [List.getD_eq_getElem?_getD, hk])
  generalize iRow zs = rows at *
  generalize hnn : zs.length = n at *
  clear ha hb hn
  go_enter Try.func17, Try.ntmps17
  go_wp2_with fail
  go_loopw [5] (fun v wr => ∃ k : Nat, v = .int .i64 (k : Int) ∧ k ≤ n ∧ Below w.heap.size w wr) (fun v _ => n - (RowKit.intOf v).toNat)
  case atStart => exact ⟨0, rfl, Nat.zero_le _, Below.refl _ _⟩
  case round =>
    obtain ⟨k, rfl, hk, hbel⟩ := hrel
    have HBE := Lib.hid hbel
    by_cases hlt : k < n
    · have hlti : (k : Int) < (n : Int) := by omega
      have hk0 : (0 : Int) ≤ (k : Int) := by omega
      have hkw : IntKind.i64.wrap ((k : Int) + 1) = (k : Int) + 1 := by rw [IntKind.wrap_i64]; have := HN.out; omega
      obtain ⟨g1, q1, h1, k1⟩ := own1_cell (HA.out wr hbel) (by omega)
      obtain ⟨g2, q2, h2, k2⟩ := own1_cell (HB.out wr hbel) (by omega)
      simp only [Value.slice.injEq] at h1 h2
      obtain ⟨rfl, -, -⟩ := h1
      obtain ⟨rfl, -, -⟩ := h2
      have hd := HG.out k hlt
      have x1 := k1 k hlt _ hd
      have x2 := k2 k hlt _ hd
      generalize zs.getD k 0 = d at *
      have hne : (d != d) = false := by simp
      clear k1 k2 hd hbel
      go_upto_region 6 with (fail)
      go_quiet (fail)
      go_wp2_with fail
      refine ⟨⟨k + 1, by simp, by omega, below_drewN HBE.out _⟩, ?_⟩
      simp [RowKit.intOf]; omega
    · have hnk : ¬ (k : Int) < (n : Int) := by omega
      clear hlt
      go_wp2_with fail
      go_ret
      exact ⟨rfl, HBE.out⟩
set_option maxHeartbeats 8000000 in
theorem law_ppaths (G : Gr) (na : Option Addr) (nc : Nat) (la : Option Addr) (lc : Nat) (max : Nat) (fr tz : Int) (w : World) (hin : GrIn w G na la) (hm : max < 2 ^ 64) (_ : True) (_ : True) :
    Calls Try.prog 5 #[.agg #[.slice na G.nodes.length nc, .slice la G.links.length lc], .float .f64 max, .agg #[.int .i64 fr, .int .i64 tz]] w fun e w' => e = .returned (.bool true) ∧ Below w.heap.size w w' := by
  have hxb := x_bits
  obtain ⟨W0, hW0⟩ : ∃ W0, W0 = w.alloc (.cells #[.slice na G.nodes.length nc, .slice la G.links.length lc] 25) := ⟨_, rfl⟩
  have b0 : Below w.heap.size w W0 := by rw [hW0]; exact gAl _ _
  have s0 : w.heap.size < W0.heap.size := by rw [hW0]; simp
  have r0 : W0.heap[w.heap.size]? = some (.cells #[.slice na G.nodes.length nc, .slice la G.links.length lc] 25 (0, 0)) := by rw [hW0]; exact heap_alloc_new w _
  obtain ⟨W1, hW1⟩ : ∃ W1, W1 = W0.alloc (.cells #[.int .i64 fr, .int .i64 tz] 38) := ⟨_, rfl⟩
  have b01 : Below W0.heap.size W0 W1 := by rw [hW1]; exact gAl _ _
  have s1 : W0.heap.size < W1.heap.size := by rw [hW1]; simp
  have b1 : Below w.heap.size w W1 := gNx b0 b01
  have r1 : W1.heap[W0.heap.size]? = some (.cells #[.int .i64 fr, .int .i64 tz] 38 (0, 0)) := by rw [hW1]; exact heap_alloc_new W0 _
  have HKG : Hid (∀ V, Below W1.heap.size W1 V → V.cell? ⟨w.heap.size, 0, none⟩ = some (.slice na G.nodes.length nc) ∧ V.cell? ⟨w.heap.size, 1, none⟩ = some (.slice la G.links.length lc) ∧ V.cell? ⟨w.heap.size + 1, 0, none⟩ = some (.int .i64 fr) ∧ V.cell? ⟨w.heap.size + 1, 1, none⟩ = some (.int .i64 tz)) := Lib.hid (fun V hV => by
    have h1 := two_cells ((hV.block _ (Nat.lt_trans s0 s1)).trans ((b01.block _ s0).trans r0))
    have h2 := two_cells ((hV.block _ s1).trans r1)
    have hs : W0.heap.size = w.heap.size + 1 := by rw [hW0]; simp
    rw [← hs]
    exact ⟨h1.1, h1.2.1, h2.1, h2.2.1⟩)
  have HB1 := Lib.hid b1
  have HP := Lib.hid (pPath_any G na nc la lc max fr tz W1 (hin.below b1) hm)
  have HR := Lib.hid (fun V (hV : Below W1.heap.size W1 V) => rPath_any G na nc la lc max fr tz V ((hin.below b1).below hV) hm)
  have HLI : Hid (askE G max [fr, tz] = 0 → qn max ≤ 4294967296) := Lib.hid (fun h => by
    obtain ⟨lim, l1, l2, l3⟩ := limit_q max hm (askE_zero h).1
    rw [l3, qn_qw (by omega)]; exact l2)
  have HAW := Lib.hid pAwake_any
  obtain ⟨g0, g1, g2, g3⟩ := HKG.out W1 (Below.refl _ _)
  generalize askE G max [fr, tz] = E at *
  generalize Nq.ahead G.nodes fr = s at *
  generalize Nq.ahead G.nodes tz = t at *
  generalize qn max = lim at *
  clear hin hm b1 s1 r1 b0 s0 r0 b01
  go_enter Try.func5, Try.ntmps5
  go_upto_region 1 with (fail)
  rw [← hW0, ← hW1]
  clear hW0 hW1
  go_wp2_with fail
  refine HP.out.mono ?_
  rintro e w2 (⟨hne, rfl, hb2⟩ | ⟨hE, c, hdp, hb2, hcase⟩)
  · have HB2 := Lib.hid hb2
    have HNE := Lib.hid hne
    clear hb2 hne g0 g1 g2 g3
    obtain ⟨g0, g1, g2, g3⟩ := HKG.out w2 HB2.out
    go_wp2_with fail
    refine (HR.out w2 HB2.out).mono ?_
    rintro e w3 (⟨-, rfl, hb3⟩ | ⟨hE, -⟩)
    case inr => exact absurd hE HNE.out
    have HB3 := Lib.hid (gNx HB1.out (gNx HB2.out hb3))
    clear hb3 g0 g1 g2 g3
    go_wp2_with fail
    refine (ints_none2 w3).mono ?_
    rintro e w4 ⟨rfl, hb4⟩
    have HB4 := Lib.hid (gNx HB3.out hb4)
    clear hb4
    go_wp2_with fail
    refine (HAW.out w4).mono ?_
    rintro e w5 ⟨rfl, hb5⟩
    have HB5 := Lib.hid (gNx HB4.out hb5)
    clear hb5
    go_wp2_with fail
    go_ret
    exact ⟨rfl, HB5.out⟩
  · subst hE
    have HB2 := Lib.hid hb2
    have HDP := Lib.hid hdp
    have HL := Lib.hid (HLI.out rfl)
    clear hb2 hdp g0 g1 g2 g3
    obtain ⟨g0, g1, g2, g3⟩ := HKG.out w2 HB2.out
    rcases hcase with ⟨hq, rfl⟩ | ⟨n, v, hq, rfl, ho⟩
    · have HQ := Lib.hid hq
      clear hq
      obtain ⟨d, hd⟩ : ∃ d, d = dw none := ⟨_, rfl⟩
      have HD := Lib.hid hd
      rw [← hd]
      clear hd
      go_wp2_with fail
      refine (HR.out w2 HB2.out).mono ?_
      rintro e w3 (⟨hne, -⟩ | ⟨-, c2, hdp2, hb3, hcase2⟩)
      case inl => exact absurd rfl hne
      have hcc := hdp2.unique HDP.out
      subst hcc
      rcases hcase2 with ⟨-, rfl⟩ | ⟨n, v, hq, -⟩
      case inr => have := HQ.out.symm.trans hq; simp at this
      rw [← HD.out]
      have HB3 := Lib.hid (gNx HB1.out (gNx HB2.out hb3))
      clear hdp2 hb3 g0 g1 g2 g3
      go_wp2_with fail
      refine (ints_none2 w3).mono ?_
      rintro e w4 ⟨rfl, hb4⟩
      have HB4 := Lib.hid (gNx HB3.out hb4)
      clear hb4
      go_wp2_with fail
      refine (HAW.out w4).mono ?_
      rintro e w5 ⟨rfl, hb5⟩
      have HB5 := Lib.hid (gNx HB4.out hb5)
      clear hb5
      go_wp2_with fail
      go_ret
      exact ⟨rfl, HB5.out⟩
    · have HQ := Lib.hid hq
      have HO := Lib.hid ho
      have HN : Hid (n ≤ 4294967296) := Lib.hid (by have := HDP.out.sm HL.out s; rw [hq] at this; exact this)
      clear hq
      obtain ⟨d, hd⟩ : ∃ d, d = dw (some n) := ⟨_, rfl⟩
      have HD := Lib.hid hd
      rw [← hd]
      clear hd
      obtain ⟨av, cv, hva⟩ := ho.slice
      subst hva
      clear ho
      obtain ⟨zs, hzs⟩ : ∃ zs, zs = (idf G.nodes s : Int) :: pathL G t c (n + 1) s := ⟨_, rfl⟩
      have HZS := Lib.hid hzs
      rw [← hzs] at HO ⊢
      have hzl : zs.length < 4611686018427387904 := by rw [hzs]; have := pathL_len G t c (n + 1) s; have := HN.out; simp only [List.length_cons]; omega
      have HZL := Lib.hid hzl
      clear hzs hzl
      generalize hll : zs.length = zl at *
      go_wp2_with fail
      refine (HR.out w2 HB2.out).mono ?_
      rintro e w3 (⟨hne, -⟩ | ⟨-, c2, hdp2, hb3, hcase2⟩)
      case inl => exact absurd rfl hne
      have hcc := hdp2.unique HDP.out
      subst hcc
      rcases hcase2 with ⟨hq, -⟩ | ⟨n2, v2, hq, rfl, ho2⟩
      case inl => have := HQ.out.symm.trans hq; simp at this
      have hnn : n2 = n := by have := HQ.out.symm.trans hq; simpa using this.symm
      subst hnn
      rw [← HD.out]
      rw [← HZS.out] at ho2
      have HFS := Lib.hid (ints_same2 _ _ _ v2 zs w3 (by rw [hll]; exact HO.out.below hb3) ho2 (by rw [hll]; exact HZL.out))
      have HB3 := Lib.hid (gNx HB1.out (gNx HB2.out hb3))
      obtain ⟨av2, cv2, rfl⟩ := ho2.slice
      rw [hll] at HFS ⊢
      clear ho2 hdp2 hb3 g0 g1 g2 g3 hll hq
      go_wp2_with fail
      refine HFS.out.mono ?_
      rintro e w4 ⟨rfl, hb4⟩
      have HB4 := Lib.hid (gNx HB3.out hb4)
      clear hb4
      go_wp2_with fail
      refine (HAW.out w4).mono ?_
      rintro e w5 ⟨rfl, hb5⟩
      have HB5 := Lib.hid (gNx HB4.out hb5)
      clear hb5
      go_wp2_with fail
      go_ret
      exact ⟨rfl, HB5.out⟩
end Go.Proofs.Ytcmknkdfoebniaa
