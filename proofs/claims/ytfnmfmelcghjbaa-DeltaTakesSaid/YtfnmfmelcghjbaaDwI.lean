/- Deltas: the document's lists; the laws' own lists; awake; news as an argument. -/
import Derived.Test.YtfnmfmelcghjbaaDwH
import Derived.Test.YtfnmfmelcghjbaaMhM
namespace Go.Proofs.Ytfnmfmelcghjbaa
open Go.RowKit Go.Lib Go.Wq Go.Ow Go.Cw Go.Fq Go.Mq Go.Kq Go.Kw Go.Dq
set_option linter.unusedVariables false
set_option linter.unusedSimpArgs false
set_option maxRecDepth 100000

set_option maxHeartbeats 8000000 in
theorem rRising_any (l : List Nw) (a : Option Addr) (c : Nat) (w : World) (hin : NewsIn w w.heap.size l a) (hfit : ∀ n ∈ l, n.Fit) (hl62 : l.length < 4611686018427387904) :
    Calls Try.prog 35 #[.slice a l.length c] w fun e w' => e = .returned (.bool (orderB l)) ∧ Below w.heap.size w w' := by
  have HIN := Lib.hid hin
  have HFIT := Lib.hid hfit
  clear hin hfit
  go_enter Try.func35, Try.ntmps35
  go_wp2_with fail
  go_loopw [3] (fun ii wr => ∃ k : Nat, ii = .int .i64 (k : Int) ∧ k ≤ l.length ∧ Below w.heap.size w wr ∧ PreD l k) (fun ii _ => l.length - (RowKit.intOf ii).toNat)
  case atStart => exact ⟨0, rfl, Nat.zero_le _, Below.refl _ _, fun j hj h => by omega⟩
  case round =>
    obtain ⟨k, rfl, hk, hbel, hpre⟩ := hrel
    have HPRE := Lib.hid hpre
    clear hpre
    by_cases hlt : k < l.length
    · have hlti : (k : Int) < (l.length : Int) := by omega
      have hk0 : (0 : Int) ≤ (k : Int) := by omega
      have hkw : IntKind.i64.wrap ((k : Int) + 1) = (k : Int) + 1 := by rw [IntKind.wrap_i64]; omega
      obtain ⟨b, o, rfl, hb, hat⟩ := HIN.out.at k hlt
      have HB := Lib.hid hbel
      have hnk := NwS.range (l := [l[k]]) (b := b) (o := o + k * 5) (w := w) (fun j hj => by
        have : j = 0 := by simp at hj; omega
        subst this
        simpa using hat k hlt)
      have HKK : Hid (∀ V, Below w.heap.size w V → V.rangeAt b (o + k * 5) (nC l[k])) := Lib.hid (fun V hV => below_keepD hV hb (by simpa [nRow] using hnk))
      have HMAY := Lib.hid (fun W => rMay_any l[k] (HFIT.out _ (List.getElem_mem _)) W)
      cases hm : newsB l[k] with
      | false =>
        have HBAD := Lib.hid (orderD_bad1 hlt hm)
        rw [hm] at HMAY
        clear hat hnk hm
        generalize l[k] = n at *
        go_upto_region 4 with (fail)
        refine wp_region_held_drew (S := fun V => Below w.heap.size w V) (by kernel_rfl) HB.out.drew (fun hs0 => ?_)
        refine tk 0 (by assumption) rfl (by kernel_rfl) (fun _ _ _ h => h) (fun V hV => by go_simp; try with_reducible rfl) ?_
        try simp only [Act.put, sqA, sqB, sqC, sqD, sqE, sqF]
        refine tk 1 (by assumption) rfl (by kernel_rfl) (fun _ _ _ h => h) (fun V hV => by go_simp; try with_reducible rfl) ?_
        try simp only [Act.put, sqA, sqB, sqC, sqD, sqE, sqF]
        refine tk 2 (by assumption) rfl (by kernel_rfl) (fun _ _ _ h => h) (fun V hV => by go_simp; try with_reducible rfl) ?_
        try simp only [Act.put, sqA, sqB, sqC, sqD, sqE, sqF]
        refine tk 3 (by assumption) rfl (by kernel_rfl) (fun _ _ _ h => h) (tk_load 63 (.tmp 12) rfl b (o + k * 5) rfl (nC n) _ (fun V hV => HKK.out V hV) Try.underlying63 (by rfl) (by kernel_rfl)) ?_
        try simp only [Act.put, sqA, sqB, sqC, sqD, sqE, sqF]
        refine wpAnyH_ready (rs := [4]) (by kernel_rfl) (by simp) ?_
        refine AllReadyH.cons (o := _) rfl (fun K hK => ?_) AllReadyH.nil
        go_simp
        refine (HMAY.out _).mono ?_
        rintro e2 V4 ⟨rfl, hb2⟩
        skip
        go_wp2_with fail
        refine hK.out _ _ (gNx hs0 hb2) (fun hs0 => ?_)
        clear hK K
        try simp only [Act.put, sqA, sqB, sqC, sqD, sqE, sqF]
        refine tk 5 (by assumption) rfl (by kernel_rfl) (fun _ _ _ h => h) (fun V hV => by go_simp; try with_reducible rfl) ?_
        try simp only [Act.put, sqA, sqB, sqC, sqD, sqE, sqF]
        refine tk 6 (by assumption) rfl (by kernel_rfl) (fun _ _ _ h => h) (fun V hV => by go_simp; try with_reducible rfl) ?_
        try simp only [Act.put, sqA, sqB, sqC, sqD, sqE, sqF]
        refine wpAnyH_take (i := 7) (oi := _) (v := undef) rfl (by kernel_rfl) (by kernel_rfl) (by kernel_rfl) (fun _ _ _ h => h) (Or.inr ⟨by kernel_rfl, rfl⟩) (by assumption) ?_
        try simp only [Act.put, sqA, sqB, sqC, sqD, sqE, sqF]
        refine wpAnyH_take (i := 8) (oi := _) (v := undef) rfl (by kernel_rfl) (by kernel_rfl) (by kernel_rfl) (fun _ _ _ h => h) (Or.inr ⟨by kernel_rfl, rfl⟩) (by assumption) ?_
        try simp only [Act.put, sqA, sqB, sqC, sqD, sqE, sqF]
        refine wpAnyH_take (i := 9) (oi := _) (v := undef) rfl (by kernel_rfl) (by kernel_rfl) (by kernel_rfl) (fun _ _ _ h => h) (Or.inr ⟨by kernel_rfl, rfl⟩) (by assumption) ?_
        try simp only [Act.put, sqA, sqB, sqC, sqD, sqE, sqF]
        refine wpAnyH_take (i := 10) (oi := _) (v := undef) rfl (by kernel_rfl) (by kernel_rfl) (by kernel_rfl) (fun _ _ _ h => h) (Or.inr ⟨by kernel_rfl, rfl⟩) (by assumption) ?_
        try simp only [Act.put, sqA, sqB, sqC, sqD, sqE, sqF]
        refine wpAnyH_take (i := 11) (oi := _) (v := undef) rfl (by kernel_rfl) (by kernel_rfl) (by kernel_rfl) (fun _ _ _ h => h) (Or.inr ⟨by kernel_rfl, rfl⟩) (by assumption) ?_
        try simp only [Act.put, sqA, sqB, sqC, sqD, sqE, sqF]
        refine wpAnyH_take (i := 12) (oi := _) (v := undef) rfl (by kernel_rfl) (by kernel_rfl) (by kernel_rfl) (fun _ _ _ h => h) (Or.inr ⟨by kernel_rfl, rfl⟩) (by assumption) ?_
        try simp only [Act.put, sqA, sqB, sqC, sqD, sqE, sqF]
        refine wpAnyH_take (i := 13) (oi := _) (v := undef) rfl (by kernel_rfl) (by kernel_rfl) (by kernel_rfl) (fun _ _ _ h => h) (Or.inr ⟨by kernel_rfl, rfl⟩) (by assumption) ?_
        try simp only [Act.put, sqA, sqB, sqC, sqD, sqE, sqF]
        refine wpAnyH_take (i := 14) (oi := _) (v := undef) rfl (by kernel_rfl) (by kernel_rfl) (by kernel_rfl) (fun _ _ _ h => h) (Or.inr ⟨by kernel_rfl, rfl⟩) (by assumption) ?_
        try simp only [Act.put, sqA, sqB, sqC, sqD, sqE, sqF]
        refine wpAnyH_take (i := 15) (oi := _) (v := undef) rfl (by kernel_rfl) (by kernel_rfl) (by kernel_rfl) (fun _ _ _ h => h) (Or.inr ⟨by kernel_rfl, rfl⟩) (by assumption) ?_
        try simp only [Act.put, sqA, sqB, sqC, sqD, sqE, sqF]
        refine wpAnyH_take (i := 16) (oi := _) (v := undef) rfl (by kernel_rfl) (by kernel_rfl) (by kernel_rfl) (fun _ _ _ h => h) (Or.inr ⟨by kernel_rfl, rfl⟩) (by assumption) ?_
        try simp only [Act.put, sqA, sqB, sqC, sqD, sqE, sqF]
        refine wpAnyH_take (i := 17) (oi := _) (v := undef) rfl (by kernel_rfl) (by kernel_rfl) (by kernel_rfl) (fun _ _ _ h => h) (Or.inr ⟨by kernel_rfl, rfl⟩) (by assumption) ?_
        try simp only [Act.put, sqA, sqB, sqC, sqD, sqE, sqF]
        refine wpAnyH_take (i := 18) (oi := _) (v := undef) rfl (by kernel_rfl) (by kernel_rfl) (by kernel_rfl) (fun _ _ _ h => h) (Or.inr ⟨by kernel_rfl, rfl⟩) (by assumption) ?_
        try simp only [Act.put, sqA, sqB, sqC, sqD, sqE, sqF]
        refine wpAnyH_take (i := 19) (oi := _) (v := undef) rfl (by kernel_rfl) (by kernel_rfl) (by kernel_rfl) (fun _ _ _ h => h) (Or.inr ⟨by kernel_rfl, rfl⟩) (by assumption) ?_
        try simp only [Act.put, sqA, sqB, sqC, sqD, sqE, sqF]
        refine wpAnyH_take (i := 20) (oi := _) (v := undef) rfl (by kernel_rfl) (by kernel_rfl) (by kernel_rfl) (fun _ _ _ h => h) (Or.inr ⟨by kernel_rfl, rfl⟩) (by assumption) ?_
        try simp only [Act.put, sqA, sqB, sqC, sqD, sqE, sqF]
        refine wpAnyH_take (i := 21) (oi := _) (v := undef) rfl (by kernel_rfl) (by kernel_rfl) (by kernel_rfl) (fun _ _ _ h => h) (Or.inr ⟨by kernel_rfl, rfl⟩) (by assumption) ?_
        try simp only [Act.put, sqA, sqB, sqC, sqD, sqE, sqF]
        refine tk 22 (by assumption) rfl (by kernel_rfl) (fun _ _ _ h => h) (fun V hV => by go_simp; try with_reducible rfl) ?_
        try simp only [Act.put, sqA, sqB, sqC, sqD, sqE, sqF]
        refine wpAnyH_done (by kernel_rfl) ?_ _
        go_wp2_with fail
        refine bodyPost_ret (v := .bool false) (by simp [results, Try.results35, go_sem]) rfl ?_
        exact ⟨by rw [HBAD.out], by assumption⟩
      | true =>
        rw [hm] at HMAY
        by_cases hz : k = 0
        · have HNX : Hid (k + 1 ≤ l.length ∧ PreD l (k + 1)) := Lib.hid ⟨hlt, HPRE.out.next hlt hm (fun h => by omega)⟩
          have hkz : ¬ 0 < k := by omega
          clear hat hnk hm hz
          generalize l[k] = n at *
          go_upto_region 4 with (fail)
          refine wp_region_held_drew (S := fun V => Below w.heap.size w V) (by kernel_rfl) HB.out.drew (fun hs0 => ?_)
          refine tk 0 (by assumption) rfl (by kernel_rfl) (fun _ _ _ h => h) (fun V hV => by go_simp; try with_reducible rfl) ?_
          try simp only [Act.put, sqA, sqB, sqC, sqD, sqE, sqF]
          refine tk 1 (by assumption) rfl (by kernel_rfl) (fun _ _ _ h => h) (fun V hV => by go_simp; try with_reducible rfl) ?_
          try simp only [Act.put, sqA, sqB, sqC, sqD, sqE, sqF]
          refine tk 2 (by assumption) rfl (by kernel_rfl) (fun _ _ _ h => h) (fun V hV => by go_simp; try with_reducible rfl) ?_
          try simp only [Act.put, sqA, sqB, sqC, sqD, sqE, sqF]
          refine tk 3 (by assumption) rfl (by kernel_rfl) (fun _ _ _ h => h) (tk_load 63 (.tmp 12) rfl b (o + k * 5) rfl (nC n) _ (fun V hV => HKK.out V hV) Try.underlying63 (by rfl) (by kernel_rfl)) ?_
          try simp only [Act.put, sqA, sqB, sqC, sqD, sqE, sqF]
          refine wpAnyH_ready (rs := [4]) (by kernel_rfl) (by simp) ?_
          refine AllReadyH.cons (o := _) rfl (fun K hK => ?_) AllReadyH.nil
          go_simp
          refine (HMAY.out _).mono ?_
          rintro e2 V4 ⟨rfl, hb2⟩
          skip
          go_wp2_with fail
          refine hK.out _ _ (gNx hs0 hb2) (fun hs0 => ?_)
          clear hK K
          try simp only [Act.put, sqA, sqB, sqC, sqD, sqE, sqF]
          refine tk 5 (by assumption) rfl (by kernel_rfl) (fun _ _ _ h => h) (fun V hV => by go_simp; try with_reducible rfl) ?_
          try simp only [Act.put, sqA, sqB, sqC, sqD, sqE, sqF]
          refine tk 6 (by assumption) rfl (by kernel_rfl) (fun _ _ _ h => h) (fun V hV => by go_simp; try with_reducible rfl) ?_
          try simp only [Act.put, sqA, sqB, sqC, sqD, sqE, sqF]
          refine tk 7 (by assumption) rfl (by kernel_rfl) (fun _ _ _ h => h) (fun V hV => by go_simp; try with_reducible rfl) ?_
          try simp only [Act.put, sqA, sqB, sqC, sqD, sqE, sqF]
          refine tk 8 (by assumption) rfl (by kernel_rfl) (fun _ _ _ h => h) (fun V hV => by go_simp; try with_reducible rfl) ?_
          try simp only [Act.put, sqA, sqB, sqC, sqD, sqE, sqF]
          refine tk 9 (by assumption) rfl (by kernel_rfl) (fun _ _ _ h => h) (fun V hV => by go_simp; try with_reducible rfl) ?_
          try simp only [Act.put, sqA, sqB, sqC, sqD, sqE, sqF]
          refine wpAnyH_take (i := 10) (oi := _) (v := undef) rfl (by kernel_rfl) (by kernel_rfl) (by kernel_rfl) (fun _ _ _ h => h) (Or.inr ⟨by kernel_rfl, rfl⟩) (by assumption) ?_
          try simp only [Act.put, sqA, sqB, sqC, sqD, sqE, sqF]
          refine wpAnyH_take (i := 11) (oi := _) (v := undef) rfl (by kernel_rfl) (by kernel_rfl) (by kernel_rfl) (fun _ _ _ h => h) (Or.inr ⟨by kernel_rfl, rfl⟩) (by assumption) ?_
          try simp only [Act.put, sqA, sqB, sqC, sqD, sqE, sqF]
          refine wpAnyH_take (i := 12) (oi := _) (v := undef) rfl (by kernel_rfl) (by kernel_rfl) (by kernel_rfl) (fun _ _ _ h => h) (Or.inr ⟨by kernel_rfl, rfl⟩) (by assumption) ?_
          try simp only [Act.put, sqA, sqB, sqC, sqD, sqE, sqF]
          refine wpAnyH_take (i := 13) (oi := _) (v := undef) rfl (by kernel_rfl) (by kernel_rfl) (by kernel_rfl) (fun _ _ _ h => h) (Or.inr ⟨by kernel_rfl, rfl⟩) (by assumption) ?_
          try simp only [Act.put, sqA, sqB, sqC, sqD, sqE, sqF]
          refine wpAnyH_take (i := 14) (oi := _) (v := undef) rfl (by kernel_rfl) (by kernel_rfl) (by kernel_rfl) (fun _ _ _ h => h) (Or.inr ⟨by kernel_rfl, rfl⟩) (by assumption) ?_
          try simp only [Act.put, sqA, sqB, sqC, sqD, sqE, sqF]
          refine wpAnyH_take (i := 15) (oi := _) (v := undef) rfl (by kernel_rfl) (by kernel_rfl) (by kernel_rfl) (fun _ _ _ h => h) (Or.inr ⟨by kernel_rfl, rfl⟩) (by assumption) ?_
          try simp only [Act.put, sqA, sqB, sqC, sqD, sqE, sqF]
          refine wpAnyH_take (i := 16) (oi := _) (v := undef) rfl (by kernel_rfl) (by kernel_rfl) (by kernel_rfl) (fun _ _ _ h => h) (Or.inr ⟨by kernel_rfl, rfl⟩) (by assumption) ?_
          try simp only [Act.put, sqA, sqB, sqC, sqD, sqE, sqF]
          refine wpAnyH_take (i := 17) (oi := _) (v := undef) rfl (by kernel_rfl) (by kernel_rfl) (by kernel_rfl) (fun _ _ _ h => h) (Or.inr ⟨by kernel_rfl, rfl⟩) (by assumption) ?_
          try simp only [Act.put, sqA, sqB, sqC, sqD, sqE, sqF]
          refine wpAnyH_take (i := 18) (oi := _) (v := undef) rfl (by kernel_rfl) (by kernel_rfl) (by kernel_rfl) (fun _ _ _ h => h) (Or.inr ⟨by kernel_rfl, rfl⟩) (by assumption) ?_
          try simp only [Act.put, sqA, sqB, sqC, sqD, sqE, sqF]
          refine wpAnyH_take (i := 19) (oi := _) (v := undef) rfl (by kernel_rfl) (by kernel_rfl) (by kernel_rfl) (fun _ _ _ h => h) (Or.inr ⟨by kernel_rfl, rfl⟩) (by assumption) ?_
          try simp only [Act.put, sqA, sqB, sqC, sqD, sqE, sqF]
          refine wpAnyH_take (i := 20) (oi := _) (v := undef) rfl (by kernel_rfl) (by kernel_rfl) (by kernel_rfl) (fun _ _ _ h => h) (Or.inr ⟨by kernel_rfl, rfl⟩) (by assumption) ?_
          try simp only [Act.put, sqA, sqB, sqC, sqD, sqE, sqF]
          refine tk 21 (by assumption) rfl (by kernel_rfl) (fun _ _ _ h => h) (fun V hV => by go_simp; try with_reducible rfl) ?_
          try simp only [Act.put, sqA, sqB, sqC, sqD, sqE, sqF]
          refine tk 22 (by assumption) rfl (by kernel_rfl) (fun _ _ _ h => h) (fun V hV => by go_simp; try with_reducible rfl) ?_
          try simp only [Act.put, sqA, sqB, sqC, sqD, sqE, sqF]
          refine wpAnyH_done (by kernel_rfl) ?_ _
          go_wp2_with fail
          exact ⟨⟨k + 1, congrArg (Value.int .i64) (by omega), HNX.out.1, by assumption, HNX.out.2⟩, by show l.length - ((k : Int) + 1).toNat < l.length - (k : Int).toNat; omega⟩
        · have hkz : 0 < k := by omega
          have hk1 : k - 1 < l.length := by omega
          have hk1i : ((k : Int) - 1) = ((k - 1 : Nat) : Int) := by omega
          have hkw1 : IntKind.i64.wrap ((k : Int) - 1) = ((k - 1 : Nat) : Int) := by rw [IntKind.wrap_i64]; omega
          have hk1l : ((k - 1 : Nat) : Int) < (l.length : Int) := by omega
          have hk10 : (0 : Int) ≤ ((k - 1 : Nat) : Int) := by omega
          have hnp := NwS.range (l := [l[k - 1]]) (b := b) (o := o + (k - 1) * 5) (w := w) (fun j hj => by
            have : j = 0 := by simp at hj; omega
            subst this
            simpa using hat (k - 1) hk1)
          have HKP : Hid (∀ V, Below w.heap.size w V → V.rangeAt b (o + (k - 1) * 5) (nC l[k - 1])) := Lib.hid (fun V hV => below_keepD hV hb (by simpa [nRow] using hnp))
          have HBEF := Lib.hid (fun W => rBefore_any l[k - 1].dest l[k - 1].kind l[k - 1].dist l[k - 1].radius l[k - 1].home l[k].dest l[k].kind l[k].dist l[k].radius l[k].home W)
          have eah : (if l[k - 1].kind == l[k].kind then decide (l[k - 1].dest < l[k].dest) else decide (l[k - 1].kind < l[k].kind)) = aheadB l[k - 1] l[k] := rfl
          rw [eah] at HBEF
          clear eah
          cases ha : aheadB l[k - 1] l[k] with
          | false =>
            have HBAD := Lib.hid (orderD_bad2 hlt (by omega) ha)
            rw [ha] at HBEF
            clear hat hnk hnp hm hz ha hk1i
            generalize l[k - 1] = n0 at *
            generalize l[k] = n at *
            generalize hkk : k - 1 = k1 at *
            go_upto_region 4 with (fail)
            refine wp_region_held_drew (S := fun V => Below w.heap.size w V) (by kernel_rfl) HB.out.drew (fun hs0 => ?_)
            refine tk 0 (by assumption) rfl (by kernel_rfl) (fun _ _ _ h => h) (fun V hV => by go_simp; try with_reducible rfl) ?_
            try simp only [Act.put, sqA, sqB, sqC, sqD, sqE, sqF]
            refine tk 1 (by assumption) rfl (by kernel_rfl) (fun _ _ _ h => h) (fun V hV => by go_simp; try with_reducible rfl) ?_
            try simp only [Act.put, sqA, sqB, sqC, sqD, sqE, sqF]
            refine tk 2 (by assumption) rfl (by kernel_rfl) (fun _ _ _ h => h) (fun V hV => by go_simp; try with_reducible rfl) ?_
            try simp only [Act.put, sqA, sqB, sqC, sqD, sqE, sqF]
            refine tk 3 (by assumption) rfl (by kernel_rfl) (fun _ _ _ h => h) (tk_load 63 (.tmp 12) rfl b (o + k * 5) rfl (nC n) _ (fun V hV => HKK.out V hV) Try.underlying63 (by rfl) (by kernel_rfl)) ?_
            try simp only [Act.put, sqA, sqB, sqC, sqD, sqE, sqF]
            refine wpAnyH_ready (rs := [4]) (by kernel_rfl) (by simp) ?_
            refine AllReadyH.cons (o := _) rfl (fun K hK => ?_) AllReadyH.nil
            go_simp
            refine (HMAY.out _).mono ?_
            rintro e2 V4 ⟨rfl, hb2⟩
            skip
            go_wp2_with fail
            refine hK.out _ _ (gNx hs0 hb2) (fun hs0 => ?_)
            clear hK K
            try simp only [Act.put, sqA, sqB, sqC, sqD, sqE, sqF]
            refine tk 5 (by assumption) rfl (by kernel_rfl) (fun _ _ _ h => h) (fun V hV => by go_simp; try with_reducible rfl) ?_
            try simp only [Act.put, sqA, sqB, sqC, sqD, sqE, sqF]
            refine tk 6 (by assumption) rfl (by kernel_rfl) (fun _ _ _ h => h) (fun V hV => by go_simp; try with_reducible rfl) ?_
            try simp only [Act.put, sqA, sqB, sqC, sqD, sqE, sqF]
            refine tk 7 (by assumption) rfl (by kernel_rfl) (fun _ _ _ h => h) (fun V hV => by go_simp; try with_reducible rfl) ?_
            try simp only [Act.put, sqA, sqB, sqC, sqD, sqE, sqF]
            refine tk 8 (by assumption) rfl (by kernel_rfl) (fun _ _ _ h => h) (fun V hV => by go_simp; try with_reducible rfl) ?_
            try simp only [Act.put, sqA, sqB, sqC, sqD, sqE, sqF]
            refine tk 9 (by assumption) rfl (by kernel_rfl) (fun _ _ _ h => h) (fun V hV => by go_simp; try with_reducible rfl) ?_
            try simp only [Act.put, sqA, sqB, sqC, sqD, sqE, sqF]
            refine tk 10 (by assumption) rfl (by kernel_rfl) (fun _ _ _ h => h) (fun V hV => by go_simp; try with_reducible rfl) ?_
            try simp only [Act.put, sqA, sqB, sqC, sqD, sqE, sqF]
            refine tk 11 (by assumption) rfl (by kernel_rfl) (fun _ _ _ h => h) (fun V hV => by go_simp; try with_reducible rfl) ?_
            try simp only [Act.put, sqA, sqB, sqC, sqD, sqE, sqF]
            refine tk 12 (by assumption) rfl (by kernel_rfl) (fun _ _ _ h => h) (fun V hV => by go_simp; try with_reducible rfl) ?_
            try simp only [Act.put, sqA, sqB, sqC, sqD, sqE, sqF]
            refine tk 13 (by assumption) rfl (by kernel_rfl) (fun _ _ _ h => h) (fun V hV => by go_simp; try with_reducible rfl) ?_
            try simp only [Act.put, sqA, sqB, sqC, sqD, sqE, sqF]
            refine tk 14 (by assumption) rfl (by kernel_rfl) (fun _ _ _ h => h) (tk_load 63 (.tmp 23) rfl b (o + k1 * 5) rfl (nC n0) _ (fun V hV => HKP.out V hV) Try.underlying63 (by rfl) (by kernel_rfl)) ?_
            try simp only [Act.put, sqA, sqB, sqC, sqD, sqE, sqF]
            refine tk 15 (by assumption) rfl (by kernel_rfl) (fun _ _ _ h => h) (fun V hV => by go_simp; try with_reducible rfl) ?_
            try simp only [Act.put, sqA, sqB, sqC, sqD, sqE, sqF]
            refine tk 16 (by assumption) rfl (by kernel_rfl) (fun _ _ _ h => h) (fun V hV => by go_simp; try with_reducible rfl) ?_
            try simp only [Act.put, sqA, sqB, sqC, sqD, sqE, sqF]
            refine tk 17 (by assumption) rfl (by kernel_rfl) (fun _ _ _ h => h) (fun V hV => by go_simp; try with_reducible rfl) ?_
            try simp only [Act.put, sqA, sqB, sqC, sqD, sqE, sqF]
            refine tk 18 (by assumption) rfl (by kernel_rfl) (fun _ _ _ h => h) (tk_load 63 (.tmp 27) rfl b (o + k * 5) rfl (nC n) _ (fun V hV => HKK.out V hV) Try.underlying63 (by rfl) (by kernel_rfl)) ?_
            try simp only [Act.put, sqA, sqB, sqC, sqD, sqE, sqF]
            refine wpAnyH_ready (rs := [19]) (by kernel_rfl) (by simp) ?_
            refine AllReadyH.cons (o := _) rfl (fun K hK => ?_) AllReadyH.nil
            go_simp
            try rw [if_pos (by omega)]
            refine (HBEF.out _).mono ?_
            rintro e2 V19 ⟨rfl, hb2⟩
            skip
            go_wp2_with fail
            refine hK.out _ _ (gNx hs0 hb2) (fun hs0 => ?_)
            clear hK K
            try simp only [Act.put, sqA, sqB, sqC, sqD, sqE, sqF]
            refine tk 20 (by assumption) rfl (by kernel_rfl) (fun _ _ _ h => h) (fun V hV => by go_simp; try with_reducible rfl) ?_
            try simp only [Act.put, sqA, sqB, sqC, sqD, sqE, sqF]
            refine tk 21 (by assumption) rfl (by kernel_rfl) (fun _ _ _ h => h) (fun V hV => by go_simp; try with_reducible rfl) ?_
            try simp only [Act.put, sqA, sqB, sqC, sqD, sqE, sqF]
            refine tk 22 (by assumption) rfl (by kernel_rfl) (fun _ _ _ h => h) (fun V hV => by go_simp; try with_reducible rfl) ?_
            try simp only [Act.put, sqA, sqB, sqC, sqD, sqE, sqF]
            refine wpAnyH_done (by kernel_rfl) ?_ _
            go_wp2_with fail
            refine bodyPost_ret (v := .bool false) (by simp [results, Try.results35, go_sem]) rfl ?_
            exact ⟨by rw [HBAD.out], by assumption⟩
          | true =>
            have HNX : Hid (k + 1 ≤ l.length ∧ PreD l (k + 1)) := Lib.hid ⟨hlt, HPRE.out.next hlt hm (fun h => ha)⟩
            rw [ha] at HBEF
            clear hat hnk hnp hm hz ha hk1i
            generalize l[k - 1] = n0 at *
            generalize l[k] = n at *
            generalize hkk : k - 1 = k1 at *
            go_upto_region 4 with (fail)
            refine wp_region_held_drew (S := fun V => Below w.heap.size w V) (by kernel_rfl) HB.out.drew (fun hs0 => ?_)
            refine tk 0 (by assumption) rfl (by kernel_rfl) (fun _ _ _ h => h) (fun V hV => by go_simp; try with_reducible rfl) ?_
            try simp only [Act.put, sqA, sqB, sqC, sqD, sqE, sqF]
            refine tk 1 (by assumption) rfl (by kernel_rfl) (fun _ _ _ h => h) (fun V hV => by go_simp; try with_reducible rfl) ?_
            try simp only [Act.put, sqA, sqB, sqC, sqD, sqE, sqF]
            refine tk 2 (by assumption) rfl (by kernel_rfl) (fun _ _ _ h => h) (fun V hV => by go_simp; try with_reducible rfl) ?_
            try simp only [Act.put, sqA, sqB, sqC, sqD, sqE, sqF]
            refine tk 3 (by assumption) rfl (by kernel_rfl) (fun _ _ _ h => h) (tk_load 63 (.tmp 12) rfl b (o + k * 5) rfl (nC n) _ (fun V hV => HKK.out V hV) Try.underlying63 (by rfl) (by kernel_rfl)) ?_
            try simp only [Act.put, sqA, sqB, sqC, sqD, sqE, sqF]
            refine wpAnyH_ready (rs := [4]) (by kernel_rfl) (by simp) ?_
            refine AllReadyH.cons (o := _) rfl (fun K hK => ?_) AllReadyH.nil
            go_simp
            refine (HMAY.out _).mono ?_
            rintro e2 V4 ⟨rfl, hb2⟩
            skip
            go_wp2_with fail
            refine hK.out _ _ (gNx hs0 hb2) (fun hs0 => ?_)
            clear hK K
            try simp only [Act.put, sqA, sqB, sqC, sqD, sqE, sqF]
            refine tk 5 (by assumption) rfl (by kernel_rfl) (fun _ _ _ h => h) (fun V hV => by go_simp; try with_reducible rfl) ?_
            try simp only [Act.put, sqA, sqB, sqC, sqD, sqE, sqF]
            refine tk 6 (by assumption) rfl (by kernel_rfl) (fun _ _ _ h => h) (fun V hV => by go_simp; try with_reducible rfl) ?_
            try simp only [Act.put, sqA, sqB, sqC, sqD, sqE, sqF]
            refine tk 7 (by assumption) rfl (by kernel_rfl) (fun _ _ _ h => h) (fun V hV => by go_simp; try with_reducible rfl) ?_
            try simp only [Act.put, sqA, sqB, sqC, sqD, sqE, sqF]
            refine tk 8 (by assumption) rfl (by kernel_rfl) (fun _ _ _ h => h) (fun V hV => by go_simp; try with_reducible rfl) ?_
            try simp only [Act.put, sqA, sqB, sqC, sqD, sqE, sqF]
            refine tk 9 (by assumption) rfl (by kernel_rfl) (fun _ _ _ h => h) (fun V hV => by go_simp; try with_reducible rfl) ?_
            try simp only [Act.put, sqA, sqB, sqC, sqD, sqE, sqF]
            refine tk 10 (by assumption) rfl (by kernel_rfl) (fun _ _ _ h => h) (fun V hV => by go_simp; try with_reducible rfl) ?_
            try simp only [Act.put, sqA, sqB, sqC, sqD, sqE, sqF]
            refine tk 11 (by assumption) rfl (by kernel_rfl) (fun _ _ _ h => h) (fun V hV => by go_simp; try with_reducible rfl) ?_
            try simp only [Act.put, sqA, sqB, sqC, sqD, sqE, sqF]
            refine tk 12 (by assumption) rfl (by kernel_rfl) (fun _ _ _ h => h) (fun V hV => by go_simp; try with_reducible rfl) ?_
            try simp only [Act.put, sqA, sqB, sqC, sqD, sqE, sqF]
            refine tk 13 (by assumption) rfl (by kernel_rfl) (fun _ _ _ h => h) (fun V hV => by go_simp; try with_reducible rfl) ?_
            try simp only [Act.put, sqA, sqB, sqC, sqD, sqE, sqF]
            refine tk 14 (by assumption) rfl (by kernel_rfl) (fun _ _ _ h => h) (tk_load 63 (.tmp 23) rfl b (o + k1 * 5) rfl (nC n0) _ (fun V hV => HKP.out V hV) Try.underlying63 (by rfl) (by kernel_rfl)) ?_
            try simp only [Act.put, sqA, sqB, sqC, sqD, sqE, sqF]
            refine tk 15 (by assumption) rfl (by kernel_rfl) (fun _ _ _ h => h) (fun V hV => by go_simp; try with_reducible rfl) ?_
            try simp only [Act.put, sqA, sqB, sqC, sqD, sqE, sqF]
            refine tk 16 (by assumption) rfl (by kernel_rfl) (fun _ _ _ h => h) (fun V hV => by go_simp; try with_reducible rfl) ?_
            try simp only [Act.put, sqA, sqB, sqC, sqD, sqE, sqF]
            refine tk 17 (by assumption) rfl (by kernel_rfl) (fun _ _ _ h => h) (fun V hV => by go_simp; try with_reducible rfl) ?_
            try simp only [Act.put, sqA, sqB, sqC, sqD, sqE, sqF]
            refine tk 18 (by assumption) rfl (by kernel_rfl) (fun _ _ _ h => h) (tk_load 63 (.tmp 27) rfl b (o + k * 5) rfl (nC n) _ (fun V hV => HKK.out V hV) Try.underlying63 (by rfl) (by kernel_rfl)) ?_
            try simp only [Act.put, sqA, sqB, sqC, sqD, sqE, sqF]
            refine wpAnyH_ready (rs := [19]) (by kernel_rfl) (by simp) ?_
            refine AllReadyH.cons (o := _) rfl (fun K hK => ?_) AllReadyH.nil
            go_simp
            try rw [if_pos (by omega)]
            refine (HBEF.out _).mono ?_
            rintro e2 V19 ⟨rfl, hb2⟩
            skip
            go_wp2_with fail
            refine hK.out _ _ (gNx hs0 hb2) (fun hs0 => ?_)
            clear hK K
            try simp only [Act.put, sqA, sqB, sqC, sqD, sqE, sqF]
            refine tk 20 (by assumption) rfl (by kernel_rfl) (fun _ _ _ h => h) (fun V hV => by go_simp; try with_reducible rfl) ?_
            try simp only [Act.put, sqA, sqB, sqC, sqD, sqE, sqF]
            refine tk 21 (by assumption) rfl (by kernel_rfl) (fun _ _ _ h => h) (fun V hV => by go_simp; try with_reducible rfl) ?_
            try simp only [Act.put, sqA, sqB, sqC, sqD, sqE, sqF]
            refine tk 22 (by assumption) rfl (by kernel_rfl) (fun _ _ _ h => h) (fun V hV => by go_simp; try with_reducible rfl) ?_
            try simp only [Act.put, sqA, sqB, sqC, sqD, sqE, sqF]
            refine wpAnyH_done (by kernel_rfl) ?_ _
            go_wp2_with fail
            exact ⟨⟨k + 1, congrArg (Value.int .i64) (by omega), HNX.out.1, by assumption, HNX.out.2⟩, by show l.length - ((k : Int) + 1).toNat < l.length - (k : Int).toNat; omega⟩
    · have hnk : ¬ (k : Int) < (l.length : Int) := by omega
      have hkl : k = l.length := by omega
      have HG : Hid (orderB l = true) := Lib.hid (orderD_pre (by rw [hkl] at HPRE; exact HPRE.out))
      go_wp2_with fail
      refine bodyPost_ret (v := .bool true) (by simp [results, Try.results35, go_sem]) rfl ?_
      exact ⟨by rw [HG.out], hbel⟩
set_option maxHeartbeats 4000000 in
theorem rList_any (l : List Nw) (a : Option Addr) (c : Nat) (w : World) (hsl : Sl w l a c) (hfit : ∀ n ∈ l, n.Fit) :
    Calls Try.prog 29 #[.slice a l.length c] w fun e w' => e = .returned (.bool (listB l)) ∧ Below w.heap.size w w' := by
  have HSL := Lib.hid hsl
  have hl62 := hsl.len
  have HR := Lib.hid (fun V (hV : Below w.heap.size w V) => rRising_any l a c V (hsl.below hV).rows hfit (by omega))
  clear hsl hfit
  go_enter Try.func29, Try.ntmps29
  go_wp2_with fail
  go_loopw [3] (fun ii wr => ∃ k : Nat, ii = .int .i64 (k : Int) ∧ k ≤ l.length ∧ Below w.heap.size w wr ∧ ∀ j (hj : j < l.length), j < k → finB l[j] = true) (fun ii _ => l.length - (RowKit.intOf ii).toNat)
  case atStart => exact ⟨0, rfl, Nat.zero_le _, Below.refl _ _, fun j hj h => by omega⟩
  case round =>
    obtain ⟨k, rfl, hk, hbel, hpre⟩ := hrel
    have HPRE := Lib.hid hpre
    clear hpre
    by_cases hlt : k < l.length
    · have hlti : (k : Int) < (l.length : Int) := by omega
      have hk0 : (0 : Int) ≤ (k : Int) := by omega
      have hkw : IntKind.i64.wrap ((k : Int) + 1) = (k : Int) + 1 := by rw [IntKind.wrap_i64]; omega
      obtain ⟨b, o, rfl, hb, hat⟩ := HSL.out.rows.at k hlt
      obtain ⟨c0, c1, c2, c3, c4⟩ := (hat k hlt).kept (hbel.block b hb)
      have HB := Lib.hid hbel
      have HG := Lib.hid (fun W => isinfP l[k].dist W)
      have HNX : Hid (infP l[k].dist = false → ∀ j (hj : j < l.length), j < k + 1 → finB l[j] = true) := Lib.hid (fun h j hj hjk => by
        by_cases e : j = k
        · subst e; unfold finB; rw [h]; rfl
        · exact HPRE.out j hj (by omega))
      have HBAD : Hid (infP l[k].dist = true → listB l = false) := Lib.hid (fun h => by
        unfold listB
        rw [show allF l = false from by
          rw [Bool.eq_false_iff]; intro ha
          unfold allF at ha
          have := List.all_eq_true.1 ha _ (List.getElem_mem hlt)
          unfold finB at this
          rw [h] at this; cases this]
        simp)
      clear hat hbel
      generalize l[k] = n at *
      cases hi : infP n.dist with
      | true =>
        have HX := Lib.hid (HBAD.out hi)
        rw [hi] at HG
        clear hi
        go_wp2_with (go_at_call 44; refine (HG.out _).mono ?_; rintro e w' ⟨rfl, rfl⟩)
        refine bodyPost_ret (v := .bool false) (by simp [results, Try.results29, go_sem]) rfl ?_
        exact ⟨by rw [HX.out], HB.out⟩
      | false =>
        have HX := Lib.hid (HNX.out hi)
        rw [hi] at HG
        clear hi
        go_wp2_with (go_at_call 44; refine (HG.out _).mono ?_; rintro e w' ⟨rfl, rfl⟩)
        exact ⟨⟨k + 1, congrArg (Value.int .i64) (by omega), hlt, HB.out, HX.out⟩, by show l.length - ((k : Int) + 1).toNat < l.length - (k : Int).toNat; omega⟩
    · have hnk : ¬ (k : Int) < (l.length : Int) := by omega
      have HX : Hid (listB l = orderB l) := Lib.hid (by unfold listB; rw [all_take (fun j hj => HPRE.out j hj (by omega))]; simp)
      have HRR := Lib.hid (HR.out wr hbel)
      have HB := Lib.hid hbel
      clear hbel
      generalize orderB l = B at *
      go_wp2_with (go_at_call 35; refine HRR.out.mono ?_; rintro e w' ⟨rfl, hb9⟩)
      refine bodyPost_ret (v := .bool B) (by simp [results, Try.results29, go_sem]) rfl ?_
      exact ⟨by rw [HX.out], gNx HB.out hb9⟩
/-- A list that is told, and lies in the world behind. -/
def SRet (w : World) (l : List Nw) (f : Value → Value) (e : Ending) (w' : World) : Prop := Below w.heap.size w w' ∧ ∃ a c, e = .returned (f (.slice a l.length c)) ∧ Sl w' l a c
theorem own_any (l : List Nw) (a : Option Addr) (c : Nat) (w : World) (h : Sl w l a c) :
    Calls Try.prog 10 #[.slice a l.length c] w fun e w' => SRet w l id e w' := by
  have hlen := h.len
  obtain ⟨a', c', W9, r9, hrun, hrow, hr9, hb9⟩ := nw_appm (l := []) (m := l) (a := none) (c := 0) (c2 := c) (w := w) (r := w.heap.size) (Or.inl ⟨rfl, rfl, none, rfl⟩) (NwS.of_news h.rows (Nat.le_refl _)) (by simp; omega) (Nat.le_refl _) (Below.refl _ _) (Nat.le_refl _)
  rw [List.nil_append] at hrun hrow
  have HRUN : Hid (∀ ty, (Builtin.append_ #[22, 22] ty #[.slice none 0 0, .slice a l.length c]).run Try.prog w = .ok (.slice a' l.length c') W9) := Lib.hid hrun
  have HF := Lib.hid (And.intro hb9 (Sl.of_row hrow hlen))
  clear hrun hrow hr9 hb9 h hlen
  go_enter Try.func10, Try.ntmps10
  go_wp2_with (at_builtin; refine Lib.wpList_append_run _ rfl _ _ _ _ rfl _ _ rfl rfl _ _ (HRUN.out _) ?_)
  refine bodyPost_ret (v := .slice a' l.length c') (by simp [results, Try.results10, go_sem]) rfl ?_
  exact ⟨HF.out.1, a', c', rfl, HF.out.2⟩
theorem aw_diff : diffE [⟨1, 1, 4611686018427387904, 0, 0⟩] [⟨1, 1, 4613937818241073152, 0, 0⟩] = ([⟨1, 1, 4613937818241073152, 0, 0⟩], 0) := by
  have h1 : listB [⟨1, 1, 4611686018427387904, 0, 0⟩] = true := by decide +kernel
  have h2 : listB [⟨1, 1, 4613937818241073152, 0, 0⟩] = true := by decide +kernel
  unfold diffE
  rw [h1, h2]
  simp [diffL, sbs, dOne, ky, nwE]
set_option maxHeartbeats 8000000 in
theorem dAwake14_any (w : World) : Calls Try.prog 15 #[] w fun e w' => e = .returned (.bool true) ∧ Below w.heap.size w w' := by
  obtain ⟨W1, hW1⟩ : ∃ W1, W1 = w.alloc (nwO ⟨1, 1, 4611686018427387904, 0, 0⟩) := ⟨_, rfl⟩
  obtain ⟨W2, hW2⟩ : ∃ W2, W2 = W1.alloc (nwO ⟨1, 1, 4613937818241073152, 0, 0⟩) := ⟨_, rfl⟩
  have hz1 : W1.heap.size = w.heap.size + 1 := by rw [hW1, World.size_alloc]
  have hb1 : Below w.heap.size w W1 := by rw [hW1]; exact gAl _ _
  have hb2 : Below w.heap.size w W2 := by rw [hW2]; exact gNx hb1 (gAl _ _)
  have one : ∀ (V : World) (n : Nw), Sl (V.alloc (nwO n)) [n] (some ⟨V.heap.size, 0, none⟩) 1 := fun V n => ⟨Or.inr ⟨V.heap.size, 0, rfl, by simp, fun k hk => by
    have : k = 0 := by simp at hk; omega
    subst this
    refine ⟨?_, ?_, ?_, ?_, ?_⟩ <;> (rw [cell_of_row (V.alloc (nwO n)) _ _ _ _ (0, 0) (heap_alloc_new V _)]; rfl)⟩, by simp, by simp⟩
  have s1 : Sl W2 [⟨1, 1, 4611686018427387904, 0, 0⟩] (some ⟨w.heap.size, 0, none⟩) 1 := by rw [hW2]; exact (by rw [hW1]; exact one w _ : Sl W1 _ _ _).below (gAl _ _)
  have s2 : Sl W2 [⟨1, 1, 4613937818241073152, 0, 0⟩] (some ⟨w.heap.size + 1, 0, none⟩) 1 := by rw [hW2, ← hz1]; exact one W1 _
  have HD := Lib.hid (dDiffE_any _ _ _ _ 1 1 W2 s1 s2 (fun x hx => by rw [List.mem_singleton.1 hx]; constructor <;> decide) (fun x hx => by rw [List.mem_singleton.1 hx]; constructor <;> decide))
  rw [aw_diff] at HD
  have HB := Lib.hid hb2
  clear s1 s2 hz1 hb1 hb2 one
  go_enter Try.func15, Try.ntmps15
  rw [hW1] at hW2
  have hf3 : (FloatKind.f64.format.order 4613937818241073152 4613937818241073152 == some .eq) = true := by decide +kernel
  go_wp2_with (go_at_call 9; rw [show (w.alloc (nwO ⟨1, 1, 4611686018427387904, 0, 0⟩)).alloc (nwO ⟨1, 1, 4613937818241073152, 0, 0⟩) = W2 from hW2.symm]; refine HD.out.mono ?_; rintro e w3 ⟨hb3, a3, c3, rfl, hs3⟩; obtain ⟨b3, o3, rfl, hlt3, hat3⟩ := hs3.rows.at 0 (by simp); have hat4 := hat3 0 (by simp); simp only [Nat.zero_mul, Nat.add_zero] at hat4; obtain ⟨k0, k1, k2, k3, k4⟩ := hat4; have HB3 := Lib.hid (gNx HB.out hb3); clear hb3 hs3 hat3)
  refine bodyPost_ret (v := .bool true) (by simp [results, Try.results15, go_sem]) rfl ?_
  exact ⟨rfl, HB3.out⟩
end Go.Proofs.Ytfnmfmelcghjbaa
