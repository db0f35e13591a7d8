/- Messages: Decode and Kind, the document. -/
import Derived.Test.YtidfgjgbigedeaaGreatDoorMiK
import Derived.Test.YtidfgjgbigedeaaGreatDoorMiI
import Derived.Test.YtidfgjgbigedeaaGreatDoorMgL
import Derived.Test.YtidfgjgbigedeaaGreatDoorMhS
import Derived.Test.YtidfgjgbigedeaaGreatDoorWsI
namespace Go.Proofs.YtidfgjgbigedeaaGreatDoor
open Go.RowKit Go.Lib Go.Wq Go.Mq
set_option linter.unusedVariables false
set_option linter.unusedSimpArgs false
set_option maxRecDepth 100000

theorem rCheckM (m : Ms) (na : Option Addr) (nc : Nat) (hf : (∀ n ∈ m.news, n.Fit) ∧ m.news.length < 4611686018427387904 ∧ m.pk.name.size ≤ 140737488351232) (w : World) (hin : NewsIn w w.heap.size m.news na) :
    Calls Tryz.prog 11 #[.agg (msCells m na nc).toArray] w fun e w' => e = .returned (.int .i64 (if mayB m then 0 else 60)) ∧ Below w.heap.size w w' := by
  obtain ⟨k, n, e, s, l, kd, fr, bk, tw, hm, hp, sr, cd, nm, id, at_, bd⟩ := m
  exact rCheck_any k n e s l na nc kd fr bk tw hm hp sr cd nm id at_ bd (by have := hf.2.2; simp only at this; omega) w hin hf.1 hf.2.1
theorem step_next {s : List UInt8} {k : Nat} (h : ∀ j, 1 ≤ j → j < k → stepR j s = none) (h1 : stepR k s = none) : ∀ j, 1 ≤ j → j < k + 1 → stepR j s = none := fun j hj hlt => by
  by_cases e : j = k
  · subst e; exact h1
  · exact h j hj (by omega)
theorem step_1 {s : List UInt8} {k : Nat} (h : (decSays (shpL k) s).2.2 ≠ 0) : stepR k s = none := by unfold stepR; rw [if_pos h]
theorem step_2 {s : List UInt8} {k : Nat} (h : (decSays (shpL k) s).2.2 = 0) (h2 : (fat (decSays (shpL k) s).1 0).U ≠ k) : stepR k s = none := by unfold stepR; rw [if_neg (by omega), if_pos h2]
theorem step_3 {s : List UInt8} {k : Nat} (h : (decSays (shpL k) s).2.2 = 0) (h2 : (fat (decSays (shpL k) s).1 0).U = k) : stepR k s = if mayB (msOf wR k (decSays (shpL k) s).1) then some (msOf wR k (decSays (shpL k) s).1) else none := by unfold stepR; rw [if_neg (by omega), if_neg (by omega)]
theorem dec_fine {s : List UInt8} {k : Nat} (hk1 : 1 ≤ k) (hk4 : k ≤ 4) (h : (decSays (shpL k) s).2.2 = 0) : encAll (itsK k) (decSays (shpL k) s).1 = some s ∧ (∀ y ∈ (decSays (shpL k) s).1, Fine y) ∧ 0 < (decSays (shpL k) s).1.length := by
  obtain ⟨its, g1, g2, g3, g4⟩ := dec_only h
  obtain rfl := Option.some.inj ((shape_k hk1 hk4).symm.trans g1)
  refine ⟨g3, fun y hy => ⟨g4 y hy, all_fine _ _ _ (shape_ok (shape_k hk1 hk4)) (shape_smP (shape_k hk1 hk4)).2 g3 g2 y hy⟩, ?_⟩
  rw [flds_len_k g3]
  obtain ⟨r, hr⟩ := itsK_u (k := k)
  rw [hr]; simp
set_option maxHeartbeats 4000000 in
theorem rDecode_any (s : ByteArray) (hs2 : s.size ≤ 140737488351232) (w : World) : Calls Tryz.prog 14 #[.string s] w (DecEnds s w) := by
  have hl : s.data.toList.length = s.size := Array.length_toList
  by_cases hlong : 65536 < s.size
  · have hli : (65536 : Int) < (s.size : Int) := by omega
    have HE := Lib.hid (code_long (s := s.data.toList) (by omega))
    clear hl
    go_enter Tryz.func14, Tryz.ntmps14
    go_upto_region 1 with (fail)
    have hth := there_box w (msCells msZ none 0) 27
    have hb := below_al w (.cells (msCells msZ none 0).toArray 27)
    have hsz : w.heap.size < (w.alloc (.cells (msCells msZ none 0).toArray 27)).heap.size := by simp
    rw [show w.alloc (.cells #[.int .i64 0, .int .u64 0, .int .u64 0, .int .u64 0, .slice none 0 0, .int .i64 0, .int .i64 0, .int .i64 0, .int .i64 0, .int .i64 0, .int .i64 0, .int .u64 0, .int .i64 0, .string ⟨#[]⟩, .int .i64 0, .int .i64 0, .string ⟨#[]⟩] 27) = w.alloc (.cells (msCells msZ none 0).toArray 27) from rfl]
    generalize w.alloc (.cells (msCells msZ none 0).toArray 27) = V at *
    go_upto_region 2 with (fail)
    refine wp_region_list ?_
    refine wpList_step (fun K hK0 => ?_)
    have hK := Lib.hid hK0
    clear hK0
    go_simp
    refine hK.out _ _ ?_
    clear hK K
    (try simp only [Act.put, List.setIfInBounds_toArray, List.set_cons_zero, List.set_cons_succ, List.getElem_toArray, List.getElem_cons_succ, List.getElem_cons_zero])
    refine wpList_store_mid rfl 27 _ _ rfl w.heap.size 0 (msCells msZ none 0).toArray rfl rfl hth (by kernel_rfl) (all_oneCell_toArray (ms_one _ _ _)) ?_
    obtain ⟨R, hbl⟩ := zeros_out hb hth
    simp only [List.toList_toArray]
    generalize V.setCells w.heap.size 0 (msCells msZ none 0) = Vz at *
    (try simp only [Act.put, List.setIfInBounds_toArray, List.set_cons_zero, List.set_cons_succ, List.getElem_toArray, List.getElem_cons_succ, List.getElem_cons_zero])
    go_wp2_with fail
    refine bodyPost_ret (results_cell2 Tryz.results14 _ Vz w.heap.size 0 (msCells msZ none 0) _ rfl R Tryz.underlying27 (by rfl) (by kernel_rfl)) rfl ?_
    exact dec_ends (m := msZ) HE.out (World.ownsRow_nil _ _ _ _) hbl
  · have hli : ¬ (65536 : Int) < (s.size : Int) := by omega
    have HC0 := Lib.hid (code_none (s := s.data.toList) (by omega))
    have HC1 := Lib.hid (fun m => code_some (s := s.data.toList) (m := m) (by omega))
    have HNONE := Lib.hid (step_none (s := s.data.toList))
    have HSOME := Lib.hid (fun (k : Nat) (h1 : 1 ≤ k) (h4 : k ≤ 4) (m : Ms) => step_some h1 h4 (s := s.data.toList) (by omega) (m := m))
    have HLS : Hid (s.data.toList.length ≤ 65536) := Lib.hid (by omega)
    have HS2 := Lib.hid hs2
    clear hl hs2
    go_enter Tryz.func14, Tryz.ntmps14
    go_upto_region 1 with (fail)
    have hth := there_box w (msCells msZ none 0) 27
    have hb := below_al w (.cells (msCells msZ none 0).toArray 27)
    have hsz : w.heap.size < (w.alloc (.cells (msCells msZ none 0).toArray 27)).heap.size := by simp
    rw [show w.alloc (.cells #[.int .i64 0, .int .u64 0, .int .u64 0, .int .u64 0, .slice none 0 0, .int .i64 0, .int .i64 0, .int .i64 0, .int .i64 0, .int .i64 0, .int .i64 0, .int .u64 0, .int .i64 0, .string ⟨#[]⟩, .int .i64 0, .int .i64 0, .string ⟨#[]⟩] 27) = w.alloc (.cells (msCells msZ none 0).toArray 27) from rfl]
    generalize w.alloc (.cells (msCells msZ none 0).toArray 27) = V at *
    go_wp2_with fail
    go_loopw [4] (fun v wr => ∃ k : Nat, v = .int .i64 (k : Int) ∧ 1 ≤ k ∧ k ≤ 5 ∧ Below w.heap.size w wr ∧ w.heap.size < wr.heap.size ∧ wr.there w.heap.size 0 17 ∧ ∀ j, 1 ≤ j → j < k → stepR j s.data.toList = none) (fun v _ => 5 - (RowKit.intOf v).toNat)
    case atStart => exact ⟨1, rfl, by omega, by omega, hb, hsz, hth, fun j h1 h2 => by omega⟩
    case round =>
      clear hb hsz hth
      obtain ⟨k, rfl, hk1, hk5, hbel, hsz, hth, hpre⟩ := hrel
      have HB := Lib.hid hbel
      have HSZ := Lib.hid hsz
      have HTH := Lib.hid hth
      have HPRE := Lib.hid hpre
      by_cases hk4 : k ≤ 4
      · have hki : (k : Int) ≤ 4 := by omega
        have hw1 : IntKind.i64.wrap ((k : Int) + 1) = (k : Int) + 1 := by rw [IntKind.wrap_i64]; omega
        have hwu : IntKind.u64.wrap (k : Int) = (k : Int) := by rw [IntKind.wrap_u64]; omega
        have HSH := Lib.hid (rShape_any (k : Int) wr (by omega))
        have HD : Hid (Calls Tryz.prog 29 #[.string (shp (k : Int)), .string s] wr (TellEnds (decSays (shpL k) s.data.toList) wr)) := Lib.hid (refDecode_any (shp (k : Int)) s (by unfold shp; split <;> (try split) <;> (try split) <;> (try split) <;> decide) HS2.out wr)
        have S1 := Lib.hid (step_1 (s := s.data.toList) (k := k))
        have S2 := Lib.hid (step_2 (s := s.data.toList) (k := k))
        have S3 := Lib.hid (step_3 (s := s.data.toList) (k := k))
        have SF := Lib.hid (dec_fine (s := s.data.toList) hk1 hk4)
        generalize decSays (shpL k) s.data.toList = D at *
        obtain ⟨dl, dn, de⟩ := D
        simp only [] at S1 S2 S3 SF
        clear hbel hsz hth hpre
        generalize shp (k : Int) = sh at *
        go_upto_region 6 with (fail)
        go_upto_region 7 with (first | (go_at_call 21; refine HSH.out.mono ?_; rintro e w' ⟨rfl, rfl⟩) | (go_at_call 29; refine HD.out.mono ?_; rintro e w1 ⟨b1, la, lc, rfl, hfs⟩))
        have HB1 := Lib.hid (below_nx HB.out (b1.mono (Nat.le_refl _)))
        have HZ1 : Hid (w.heap.size < w1.heap.size) := Lib.hid (Nat.lt_of_lt_of_le HSZ.out b1.size)
        have HT1 := Lib.hid (there_next HTH.out HSZ.out b1)
        clear b1
        by_cases hde : de = 0
        · subst hde
          obtain ⟨f1, f2, f3⟩ := SF.out (by first | rfl | trivial)
          have hin := new_in hfs (Below.refl _ _)
          obtain ⟨bb, oo, rfl, hbb, hf⟩ := flds_c hin (by simpa using f3)
          have c0 := (hf 0 (by simpa using f3)).u
          simp only [Nat.zero_mul, Nat.add_zero] at c0
          have i0 : (0 : Int) < (dl.length : Int) := by have h3 : 0 < dl.length := f3; omega
          have HIN := Lib.hid hin
          have F1 := Lib.hid f1
          have F2 := Lib.hid f2
          clear hf hin hfs f1 f2 f3
          by_cases hu : (fat dl 0).U = k
          · have HM := Lib.hid (rMsOf_any k hk1 hk4 dl (some ⟨bb, oo, none⟩) lc s.data.toList w1 HIN.out F1.out HLS.out hu)
            have HFT := Lib.hid (msOf_news inR (k := k) F2.out)
            have HDC := Lib.hid (S3.out (by first | rfl | trivial) hu)
            have hub : ((((fat dl 0).U : Nat) : Int) != (k : Int)) = false := by rw [hu]; simp
            generalize msOf wR k dl = m at *
            clear S1 S2 S3 SF HIN F1 F2
            try simp only [] at c0
            rw [hu] at c0 hub
            go_upto_region 8 with (fail)
            clear c0
            go_upto_region 9 with (go_at_call 30; refine HM.out.mono ?_; rintro e w2 ⟨na, nc, rfl, hown, b2⟩; simp only [msCells])
            have HH := Lib.hid (held_new HB1.out HT1.out HZ1.out hown b2)
            rw [show w2.alloc (.cells #[.int .i64 m.kind, .int .u64 (m.nonce : Int), .int .u64 (m.echo : Int), .int .u64 (m.seq : Int), .slice na m.news.length nc, .int .i64 m.pk.kind, .int .i64 m.pk.frm, .int .i64 m.pk.back, .int .i64 m.pk.to, .int .i64 m.pk.home, .int .i64 m.pk.hops, .int .u64 (m.pk.serial : Int), .int .i64 m.pk.code, .string m.pk.name, .int .i64 m.pk.id, .int .i64 m.pk.at_, .string m.pk.body] 27) = w2.alloc (.cells (msCells m na nc).toArray 27) from rfl]
            generalize w2.alloc (.cells (msCells m na nc).toArray 27) = V2 at *
            generalize w2.heap.size = mb at *
            clear b2 hown
            have HCK := Lib.hid (rCheckM m na nc HFT.out V2 HH.out.news)
            refine wp_region_list ?_
            refine wpList_load_guard (by kernel_rfl) 27 (.tmp 8) rfl mb 0 rfl (msCells m na nc) _ HH.out.at_ Tryz.underlying27 (by rfl) (by kernel_rfl) ?_
            (try simp only [Act.put, List.setIfInBounds_toArray, List.set_cons_zero, List.set_cons_succ, List.getElem_toArray, List.getElem_cons_succ, List.getElem_cons_zero])
            cases hm : mayB m with
            | false =>
              rw [hm] at HCK
              have hd := HDC.out
              rw [hm] at hd
              have HNO := Lib.hid hd
              clear hd
              go_wp2_with (go_at_call 11; refine HCK.out.mono ?_; rintro e V3 ⟨rfl, b3⟩; have HH3 := Lib.hid (HH.out.next b3); clear b3)
              refine ⟨⟨k + 1, by simp, by omega, by omega, HH3.out.bel, HH3.out.hw, HH3.out.th, step_next HPRE.out HNO.out⟩, ?_⟩
              simp [RowKit.intOf]; omega
            | true =>
              rw [hm] at HCK
              have hd := HDC.out
              rw [hm] at hd
              have HE := Lib.hid (HC1.out m (HSOME.out k hk1 hk4 m hd))
              clear hd
              go_upto_region 10 with (go_at_call 11; refine HCK.out.mono ?_; rintro e V3 ⟨rfl, b3⟩; have HH3 := Lib.hid (HH.out.next b3); clear b3)
              refine wp_region_list ?_
              refine wpList_load_guard (by kernel_rfl) 27 (.tmp 8) rfl mb 0 rfl (msCells m na nc) _ HH3.out.at_ Tryz.underlying27 (by rfl) (by kernel_rfl) ?_
              (try simp only [Act.put, List.setIfInBounds_toArray, List.set_cons_zero, List.set_cons_succ, List.getElem_toArray, List.getElem_cons_succ, List.getElem_cons_zero])
              refine wpList_store_mid rfl 27 _ _ rfl w.heap.size 0 (msCells m na nc).toArray rfl rfl HH3.out.th (by kernel_rfl) (all_oneCell_toArray (ms_one _ _ _)) ?_
              obtain ⟨R, hbl⟩ := ms_out (ms_len m na nc) HH3.out.bel HH3.out.th
              have hown := HH3.out.out
              simp only [List.toList_toArray]
              generalize V3.setCells w.heap.size 0 (msCells m na nc) = Vz at *
              (try simp only [Act.put, List.setIfInBounds_toArray, List.set_cons_zero, List.set_cons_succ, List.getElem_toArray, List.getElem_cons_succ, List.getElem_cons_zero])
              go_wp2_with fail
              refine bodyPost_ret (results_cell2 Tryz.results14 _ Vz w.heap.size 0 (msCells m na nc) _ rfl R Tryz.underlying27 (by rfl) (by kernel_rfl)) rfl ?_
              exact dec_ends HE.out hown hbl
          · have HNO := Lib.hid (S2.out (by first | rfl | trivial) hu)
            have hub : ((((fat dl 0).U : Nat) : Int) != (k : Int)) = true := by simp; omega
            clear S1 S2 S3 SF
            go_wp2_with fail
            refine ⟨⟨k + 1, by simp, by omega, by omega, HB1.out, HZ1.out, HT1.out, step_next HPRE.out HNO.out⟩, ?_⟩
            simp [RowKit.intOf]; omega
        · have HNO := Lib.hid (S1.out hde)
          have hdb := bad_nat hde
          clear S1 S2 S3 SF hfs
          go_wp2_with fail
          refine ⟨⟨k + 1, by simp, by omega, by omega, HB1.out, HZ1.out, HT1.out, step_next HPRE.out HNO.out⟩, ?_⟩
          simp [RowKit.intOf]; omega
      · have hki : ¬ (k : Int) ≤ 4 := by omega
        have HE := Lib.hid (HC0.out (HNONE.out (fun j h1 h4 => hpre j h1 (by omega))))
        go_upto_region 11 with (fail)
        refine wp_region_list ?_
        refine wpList_step (fun K hK0 => ?_)
        have hK := Lib.hid hK0
        clear hK0
        go_simp
        refine hK.out _ _ ?_
        clear hK K
        (try simp only [Act.put, List.setIfInBounds_toArray, List.set_cons_zero, List.set_cons_succ, List.getElem_toArray, List.getElem_cons_succ, List.getElem_cons_zero])
        refine wpList_store_mid rfl 27 _ _ rfl w.heap.size 0 (msCells msZ none 0).toArray rfl rfl hth (by kernel_rfl) (all_oneCell_toArray (ms_one _ _ _)) ?_
        obtain ⟨R, hbl⟩ := zeros_out hbel hth
        simp only [List.toList_toArray]
        generalize wr.setCells w.heap.size 0 (msCells msZ none 0) = Vz at *
        (try simp only [Act.put, List.setIfInBounds_toArray, List.set_cons_zero, List.set_cons_succ, List.getElem_toArray, List.getElem_cons_succ, List.getElem_cons_zero])
        go_wp2_with fail
        refine bodyPost_ret (results_cell2 Tryz.results14 _ Vz w.heap.size 0 (msCells msZ none 0) _ rfl R Tryz.underlying27 (by rfl) (by kernel_rfl)) rfl ?_
        exact dec_ends (m := msZ) HE.out (World.ownsRow_nil _ _ _ _) hbl

set_option maxHeartbeats 4000000 in
theorem rKind_any (s : ByteArray) (hs2 : s.size ≤ 140737488351232) (w : World) : Calls Tryz.prog 17 #[.string s] w fun e w' => e = .returned (.int .i64 (outM s.data.toList).kind) ∧ Below w.heap.size w w' := by
  have HD := Lib.hid (rDecode_any s hs2 w)
  clear hs2
  go_enter Tryz.func17, Tryz.ntmps17
  unfold DecEnds at HD
  generalize outM s.data.toList = m at *
  generalize codeD s.data.toList = code at *
  go_wp2_with (go_at_call 14; refine HD.out.mono ?_; rintro e w2 ⟨na, nc, rfl, hown, b2⟩; simp only [msCells]; have B2 := Lib.hid b2; clear hown b2)
  go_ret
  exact ⟨rfl, B2.out.alloc B2.out.size _⟩
end Go.Proofs.YtidfgjgbigedeaaGreatDoor
