/- Caches, the document: news that may be told; a destination's news. -/
import Derived.Test.YtjhmfmpaaljegaaGreatKwI
namespace Go.Proofs.YtjhmfmpaaljegaaGreat
open Go.RowKit Go.Lib Go.Ow Go.Cw Go.Fq Go.Mq Go.Kq Go.Kw
set_option linter.unusedVariables false
set_option linter.unusedSimpArgs false
set_option maxRecDepth 100000

theorem order_pre {l : List Nw} (h : Pre l l.length) : orderB l = true := order_iff.2 (fun j hj => h j hj hj)
theorem order_bad1 {l : List Nw} {k : Nat} (hk : k < l.length) (h : newsB l[k] = false) : orderB l = false := by
  rw [Bool.eq_false_iff]; intro ho
  have := (order_iff.1 ho k hk).1
  rw [h] at this; cases this
theorem order_bad2 {l : List Nw} {k : Nat} (hk : k < l.length) (h0 : 0 < k) (h : aheadB (l[k - 1]'(by omega)) l[k] = false) : orderB l = false := by
  rw [Bool.eq_false_iff]; intro ho
  have := (order_iff.1 ho k hk).2 h0
  rw [h] at this; cases this
set_option maxHeartbeats 8000000 in
theorem rTold13_any (l : List Nw) (a : Option Addr) (c : Nat) (w : World) (hin : NewsIn w w.heap.size l a) (hfit : ∀ n ∈ l, n.Fit) (hl62 : l.length < 4611686018427387904) :
    Calls Tryz.prog 47 #[.slice a l.length c] w fun e w' => e = .returned (.bool (orderB l)) ∧ Below w.heap.size w w' := by
  have HIN := Lib.hid hin
  have HFIT := Lib.hid hfit
  clear hin hfit
  go_enter Tryz.func47, Tryz.ntmps47
  go_wp2_with fail
  go_loopw [3] (fun ii wr => ∃ k : Nat, ii = .int .i64 (k : Int) ∧ k ≤ l.length ∧ Below w.heap.size w wr ∧ Pre l k) (fun ii _ => l.length - (RowKit.intOf ii).toNat)
  case atStart => exact ⟨0, rfl, Nat.zero_le _, Below.refl _ _, fun j hj h => by omega⟩
  case round =>
    obtain ⟨k, rfl, hk, hbel, hpre⟩ := hrel
    have HPRE := Lib.hid hpre
    clear hpre
    by_cases hlt : k < l.length
    · have hlti : (k : Int) < (l.length : Int) := by omega
      have hk0 : (0 : Int) ≤ (k : Int) := by omega
      have hkw : IntKind.i64.wrap ((k : Int) + 1) = (k : Int) + 1 := by rw [IntKind.wrap_i64]; omega
      obtain ⟨b, o, rfl, hb, hat⟩ := HIN.out.at k hlt
      have HB := Lib.hid hbel
      have hnk := NwS.range (l := [l[k]]) (b := b) (o := o + k * 5) (w := w) (fun j hj => by
        have : j = 0 := by simp at hj; omega
        subst this
        simpa using hat k hlt)
      have HKK : Hid (∀ V, Below w.heap.size w V → V.rangeAt b (o + k * 5) (nC l[k])) := Lib.hid (fun V hV => below_keep hV hb (by simpa [nRow] using hnk))
      have HMAY := Lib.hid (fun W => rMay_any l[k] (HFIT.out _ (List.getElem_mem _)) W)
      cases hm : newsB l[k] with
      | false =>
        have HBAD := Lib.hid (order_bad1 hlt hm)
        rw [hm] at HMAY
        clear hat hnk hm
        generalize l[k] = n at *
        go_upto_region 4 with (fail)
        refine wp_region_held_drew (S := fun V => Below w.heap.size w V) (by kernel_rfl) HB.out.drew (fun hs0 => ?_)
        refine tk 0 (by assumption) rfl (by kernel_rfl) (fun _ _ _ h => h) (fun V hV => by go_simp; try with_reducible rfl) ?_
        try simp only [Act.put, sqA, sqB, sqC, sqD, sqE, sqF]
        refine tk 1 (by assumption) rfl (by kernel_rfl) (fun _ _ _ h => h) (fun V hV => by go_simp; try with_reducible rfl) ?_
        try simp only [Act.put, sqA, sqB, sqC, sqD, sqE, sqF]
        refine tk 2 (by assumption) rfl (by kernel_rfl) (fun _ _ _ h => h) (fun V hV => by go_simp; try with_reducible rfl) ?_
        try simp only [Act.put, sqA, sqB, sqC, sqD, sqE, sqF]
        refine tk 3 (by assumption) rfl (by kernel_rfl) (fun _ _ _ h => h) (tk_load 61 (.tmp 12) rfl b (o + k * 5) rfl (nC n) _ (fun V hV => HKK.out V hV) Tryz.underlying61 (by rfl) (by kernel_rfl)) ?_
        try simp only [Act.put, sqA, sqB, sqC, sqD, sqE, sqF]
        refine wpAnyH_ready (rs := [4]) (by kernel_rfl) (by simp) ?_
        refine AllReadyH.cons (o := _) rfl (fun K hK => ?_) AllReadyH.nil
        go_simp
        refine (HMAY.out _).mono ?_
        rintro e2 V4 ⟨rfl, hb2⟩
        skip
        go_wp2_with fail
        refine hK.out _ _ (gNx hs0 hb2) (fun hs0 => ?_)
        clear hK K
        try simp only [Act.put, sqA, sqB, sqC, sqD, sqE, sqF]
        refine tk 5 (by assumption) rfl (by kernel_rfl) (fun _ _ _ h => h) (fun V hV => by go_simp; try with_reducible rfl) ?_
        try simp only [Act.put, sqA, sqB, sqC, sqD, sqE, sqF]
        refine tk 6 (by assumption) rfl (by kernel_rfl) (fun _ _ _ h => h) (fun V hV => by go_simp; try with_reducible rfl) ?_
        try simp only [Act.put, sqA, sqB, sqC, sqD, sqE, sqF]
        refine wpAnyH_take (i := 7) (oi := _) (v := undef) rfl (by kernel_rfl) (by kernel_rfl) (by kernel_rfl) (fun _ _ _ h => h) (Or.inr ⟨by kernel_rfl, rfl⟩) (by assumption) ?_
        try simp only [Act.put, sqA, sqB, sqC, sqD, sqE, sqF]
        refine wpAnyH_take (i := 8) (oi := _) (v := undef) rfl (by kernel_rfl) (by kernel_rfl) (by kernel_rfl) (fun _ _ _ h => h) (Or.inr ⟨by kernel_rfl, rfl⟩) (by assumption) ?_
        try simp only [Act.put, sqA, sqB, sqC, sqD, sqE, sqF]
        refine wpAnyH_take (i := 9) (oi := _) (v := undef) rfl (by kernel_rfl) (by kernel_rfl) (by kernel_rfl) (fun _ _ _ h => h) (Or.inr ⟨by kernel_rfl, rfl⟩) (by assumption) ?_
        try simp only [Act.put, sqA, sqB, sqC, sqD, sqE, sqF]
        refine wpAnyH_take (i := 10) (oi := _) (v := undef) rfl (by kernel_rfl) (by kernel_rfl) (by kernel_rfl) (fun _ _ _ h => h) (Or.inr ⟨by kernel_rfl, rfl⟩) (by assumption) ?_
        try simp only [Act.put, sqA, sqB, sqC, sqD, sqE, sqF]
        refine wpAnyH_take (i := 11) (oi := _) (v := undef) rfl (by kernel_rfl) (by kernel_rfl) (by kernel_rfl) (fun _ _ _ h => h) (Or.inr ⟨by kernel_rfl, rfl⟩) (by assumption) ?_
        try simp only [Act.put, sqA, sqB, sqC, sqD, sqE, sqF]
        refine wpAnyH_take (i := 12) (oi := _) (v := undef) rfl (by kernel_rfl) (by kernel_rfl) (by kernel_rfl) (fun _ _ _ h => h) (Or.inr ⟨by kernel_rfl, rfl⟩) (by assumption) ?_
        try simp only [Act.put, sqA, sqB, sqC, sqD, sqE, sqF]
        refine wpAnyH_take (i := 13) (oi := _) (v := undef) rfl (by kernel_rfl) (by kernel_rfl) (by kernel_rfl) (fun _ _ _ h => h) (Or.inr ⟨by kernel_rfl, rfl⟩) (by assumption) ?_
        try simp only [Act.put, sqA, sqB, sqC, sqD, sqE, sqF]
        refine wpAnyH_take (i := 14) (oi := _) (v := undef) rfl (by kernel_rfl) (by kernel_rfl) (by kernel_rfl) (fun _ _ _ h => h) (Or.inr ⟨by kernel_rfl, rfl⟩) (by assumption) ?_
        try simp only [Act.put, sqA, sqB, sqC, sqD, sqE, sqF]
        refine wpAnyH_take (i := 15) (oi := _) (v := undef) rfl (by kernel_rfl) (by kernel_rfl) (by kernel_rfl) (fun _ _ _ h => h) (Or.inr ⟨by kernel_rfl, rfl⟩) (by assumption) ?_
        try simp only [Act.put, sqA, sqB, sqC, sqD, sqE, sqF]
        refine wpAnyH_take (i := 16) (oi := _) (v := undef) rfl (by kernel_rfl) (by kernel_rfl) (by kernel_rfl) (fun _ _ _ h => h) (Or.inr ⟨by kernel_rfl, rfl⟩) (by assumption) ?_
        try simp only [Act.put, sqA, sqB, sqC, sqD, sqE, sqF]
        refine wpAnyH_take (i := 17) (oi := _) (v := undef) rfl (by kernel_rfl) (by kernel_rfl) (by kernel_rfl) (fun _ _ _ h => h) (Or.inr ⟨by kernel_rfl, rfl⟩) (by assumption) ?_
        try simp only [Act.put, sqA, sqB, sqC, sqD, sqE, sqF]
        refine wpAnyH_take (i := 18) (oi := _) (v := undef) rfl (by kernel_rfl) (by kernel_rfl) (by kernel_rfl) (fun _ _ _ h => h) (Or.inr ⟨by kernel_rfl, rfl⟩) (by assumption) ?_
        try simp only [Act.put, sqA, sqB, sqC, sqD, sqE, sqF]
        refine wpAnyH_take (i := 19) (oi := _) (v := undef) rfl (by kernel_rfl) (by kernel_rfl) (by kernel_rfl) (fun _ _ _ h => h) (Or.inr ⟨by kernel_rfl, rfl⟩) (by assumption) ?_
        try simp only [Act.put, sqA, sqB, sqC, sqD, sqE, sqF]
        refine wpAnyH_take (i := 20) (oi := _) (v := undef) rfl (by kernel_rfl) (by kernel_rfl) (by kernel_rfl) (fun _ _ _ h => h) (Or.inr ⟨by kernel_rfl, rfl⟩) (by assumption) ?_
        try simp only [Act.put, sqA, sqB, sqC, sqD, sqE, sqF]
        refine wpAnyH_take (i := 21) (oi := _) (v := undef) rfl (by kernel_rfl) (by kernel_rfl) (by kernel_rfl) (fun _ _ _ h => h) (Or.inr ⟨by kernel_rfl, rfl⟩) (by assumption) ?_
        try simp only [Act.put, sqA, sqB, sqC, sqD, sqE, sqF]
        refine tk 22 (by assumption) rfl (by kernel_rfl) (fun _ _ _ h => h) (fun V hV => by go_simp; try with_reducible rfl) ?_
        try simp only [Act.put, sqA, sqB, sqC, sqD, sqE, sqF]
        refine wpAnyH_done (by kernel_rfl) ?_ _
        go_wp2_with fail
        refine bodyPost_ret (v := .bool false) (by simp [results, Tryz.results47, go_sem]) rfl ?_
        exact ⟨by rw [HBAD.out], by assumption⟩
      | true =>
        rw [hm] at HMAY
        by_cases hz : k = 0
        · have HNX : Hid (k + 1 ≤ l.length ∧ Pre l (k + 1)) := Lib.hid ⟨hlt, HPRE.out.next hlt hm (fun h => by omega)⟩
          have hkz : ¬ 0 < k := by omega
          clear hat hnk hm hz
          generalize l[k] = n at *
          go_upto_region 4 with (fail)
          refine wp_region_held_drew (S := fun V => Below w.heap.size w V) (by kernel_rfl) HB.out.drew (fun hs0 => ?_)
          refine tk 0 (by assumption) rfl (by kernel_rfl) (fun _ _ _ h => h) (fun V hV => by go_simp; try with_reducible rfl) ?_
          try simp only [Act.put, sqA, sqB, sqC, sqD, sqE, sqF]
          refine tk 1 (by assumption) rfl (by kernel_rfl) (fun _ _ _ h => h) (fun V hV => by go_simp; try with_reducible rfl) ?_
          try simp only [Act.put, sqA, sqB, sqC, sqD, sqE, sqF]
          refine tk 2 (by assumption) rfl (by kernel_rfl) (fun _ _ _ h => h) (fun V hV => by go_simp; try with_reducible rfl) ?_
          try simp only [Act.put, sqA, sqB, sqC, sqD, sqE, sqF]
          refine tk 3 (by assumption) rfl (by kernel_rfl) (fun _ _ _ h => h) (tk_load 61 (.tmp 12) rfl b (o + k * 5) rfl (nC n) _ (fun V hV => HKK.out V hV) Tryz.underlying61 (by rfl) (by kernel_rfl)) ?_
          try simp only [Act.put, sqA, sqB, sqC, sqD, sqE, sqF]
          refine wpAnyH_ready (rs := [4]) (by kernel_rfl) (by simp) ?_
          refine AllReadyH.cons (o := _) rfl (fun K hK => ?_) AllReadyH.nil
          go_simp
          refine (HMAY.out _).mono ?_
          rintro e2 V4 ⟨rfl, hb2⟩
          skip
          go_wp2_with fail
          refine hK.out _ _ (gNx hs0 hb2) (fun hs0 => ?_)
          clear hK K
          try simp only [Act.put, sqA, sqB, sqC, sqD, sqE, sqF]
          refine tk 5 (by assumption) rfl (by kernel_rfl) (fun _ _ _ h => h) (fun V hV => by go_simp; try with_reducible rfl) ?_
          try simp only [Act.put, sqA, sqB, sqC, sqD, sqE, sqF]
          refine tk 6 (by assumption) rfl (by kernel_rfl) (fun _ _ _ h => h) (fun V hV => by go_simp; try with_reducible rfl) ?_
          try simp only [Act.put, sqA, sqB, sqC, sqD, sqE, sqF]
          refine tk 7 (by assumption) rfl (by kernel_rfl) (fun _ _ _ h => h) (fun V hV => by go_simp; try with_reducible rfl) ?_
          try simp only [Act.put, sqA, sqB, sqC, sqD, sqE, sqF]
          refine tk 8 (by assumption) rfl (by kernel_rfl) (fun _ _ _ h => h) (fun V hV => by go_simp; try with_reducible rfl) ?_
          try simp only [Act.put, sqA, sqB, sqC, sqD, sqE, sqF]
          refine tk 9 (by assumption) rfl (by kernel_rfl) (fun _ _ _ h => h) (fun V hV => by go_simp; try with_reducible rfl) ?_
          try simp only [Act.put, sqA, sqB, sqC, sqD, sqE, sqF]
          refine wpAnyH_take (i := 10) (oi := _) (v := undef) rfl (by kernel_rfl) (by kernel_rfl) (by kernel_rfl) (fun _ _ _ h => h) (Or.inr ⟨by kernel_rfl, rfl⟩) (by assumption) ?_
          try simp only [Act.put, sqA, sqB, sqC, sqD, sqE, sqF]
          refine wpAnyH_take (i := 11) (oi := _) (v := undef) rfl (by kernel_rfl) (by kernel_rfl) (by kernel_rfl) (fun _ _ _ h => h) (Or.inr ⟨by kernel_rfl, rfl⟩) (by assumption) ?_
          try simp only [Act.put, sqA, sqB, sqC, sqD, sqE, sqF]
          refine wpAnyH_take (i := 12) (oi := _) (v := undef) rfl (by kernel_rfl) (by kernel_rfl) (by kernel_rfl) (fun _ _ _ h => h) (Or.inr ⟨by kernel_rfl, rfl⟩) (by assumption) ?_
          try simp only [Act.put, sqA, sqB, sqC, sqD, sqE, sqF]
          refine wpAnyH_take (i := 13) (oi := _) (v := undef) rfl (by kernel_rfl) (by kernel_rfl) (by kernel_rfl) (fun _ _ _ h => h) (Or.inr ⟨by kernel_rfl, rfl⟩) (by assumption) ?_
          try simp only [Act.put, sqA, sqB, sqC, sqD, sqE, sqF]
          refine wpAnyH_take (i := 14) (oi := _) (v := undef) rfl (by kernel_rfl) (by kernel_rfl) (by kernel_rfl) (fun _ _ _ h => h) (Or.inr ⟨by kernel_rfl, rfl⟩) (by assumption) ?_
          try simp only [Act.put, sqA, sqB, sqC, sqD, sqE, sqF]
          refine wpAnyH_take (i := 15) (oi := _) (v := undef) rfl (by kernel_rfl) (by kernel_rfl) (by kernel_rfl) (fun _ _ _ h => h) (Or.inr ⟨by kernel_rfl, rfl⟩) (by assumption) ?_
          try simp only [Act.put, sqA, sqB, sqC, sqD, sqE, sqF]
          refine wpAnyH_take (i := 16) (oi := _) (v := undef) rfl (by kernel_rfl) (by kernel_rfl) (by kernel_rfl) (fun _ _ _ h => h) (Or.inr ⟨by kernel_rfl, rfl⟩) (by assumption) ?_
          try simp only [Act.put, sqA, sqB, sqC, sqD, sqE, sqF]
          refine wpAnyH_take (i := 17) (oi := _) (v := undef) rfl (by kernel_rfl) (by kernel_rfl) (by kernel_rfl) (fun _ _ _ h => h) (Or.inr ⟨by kernel_rfl, rfl⟩) (by assumption) ?_
          try simp only [Act.put, sqA, sqB, sqC, sqD, sqE, sqF]
          refine wpAnyH_take (i := 18) (oi := _) (v := undef) rfl (by kernel_rfl) (by kernel_rfl) (by kernel_rfl) (fun _ _ _ h => h) (Or.inr ⟨by kernel_rfl, rfl⟩) (by assumption) ?_
          try simp only [Act.put, sqA, sqB, sqC, sqD, sqE, sqF]
          refine wpAnyH_take (i := 19) (oi := _) (v := undef) rfl (by kernel_rfl) (by kernel_rfl) (by kernel_rfl) (fun _ _ _ h => h) (Or.inr ⟨by kernel_rfl, rfl⟩) (by assumption) ?_
          try simp only [Act.put, sqA, sqB, sqC, sqD, sqE, sqF]
          refine wpAnyH_take (i := 20) (oi := _) (v := undef) rfl (by kernel_rfl) (by kernel_rfl) (by kernel_rfl) (fun _ _ _ h => h) (Or.inr ⟨by kernel_rfl, rfl⟩) (by assumption) ?_
          try simp only [Act.put, sqA, sqB, sqC, sqD, sqE, sqF]
          refine tk 21 (by assumption) rfl (by kernel_rfl) (fun _ _ _ h => h) (fun V hV => by go_simp; try with_reducible rfl) ?_
          try simp only [Act.put, sqA, sqB, sqC, sqD, sqE, sqF]
          refine tk 22 (by assumption) rfl (by kernel_rfl) (fun _ _ _ h => h) (fun V hV => by go_simp; try with_reducible rfl) ?_
          try simp only [Act.put, sqA, sqB, sqC, sqD, sqE, sqF]
          refine wpAnyH_done (by kernel_rfl) ?_ _
          go_wp2_with fail
          exact ⟨⟨k + 1, congrArg (Value.int .i64) (by omega), HNX.out.1, by assumption, HNX.out.2⟩, by show l.length - ((k : Int) + 1).toNat < l.length - (k : Int).toNat; omega⟩
        · have hkz : 0 < k := by omega
          have hk1 : k - 1 < l.length := by omega
          have hk1i : ((k : Int) - 1) = ((k - 1 : Nat) : Int) := by omega
          have hkw1 : IntKind.i64.wrap ((k : Int) - 1) = ((k - 1 : Nat) : Int) := by rw [IntKind.wrap_i64]; omega
          have hk1l : ((k - 1 : Nat) : Int) < (l.length : Int) := by omega
          have hk10 : (0 : Int) ≤ ((k - 1 : Nat) : Int) := by omega
          have hnp := NwS.range (l := [l[k - 1]]) (b := b) (o := o + (k - 1) * 5) (w := w) (fun j hj => by
            have : j = 0 := by simp at hj; omega
            subst this
            simpa using hat (k - 1) hk1)
          have HKP : Hid (∀ V, Below w.heap.size w V → V.rangeAt b (o + (k - 1) * 5) (nC l[k - 1])) := Lib.hid (fun V hV => below_keep hV hb (by simpa [nRow] using hnp))
          have HBEF := Lib.hid (fun W => rBefore_any l[k - 1].dest l[k - 1].kind l[k - 1].dist l[k - 1].radius l[k - 1].home l[k].dest l[k].kind l[k].dist l[k].radius l[k].home W)
          have eah : (if l[k - 1].kind == l[k].kind then decide (l[k - 1].dest < l[k].dest) else decide (l[k - 1].kind < l[k].kind)) = aheadB l[k - 1] l[k] := rfl
          rw [eah] at HBEF
          clear eah
          cases ha : aheadB l[k - 1] l[k] with
          | false =>
            have HBAD := Lib.hid (order_bad2 hlt (by omega) ha)
            rw [ha] at HBEF
            clear hat hnk hnp hm hz ha hk1i
            generalize l[k - 1] = n0 at *
            generalize l[k] = n at *
            generalize hkk : k - 1 = k1 at *
            go_upto_region 4 with (fail)
            refine wp_region_held_drew (S := fun V => Below w.heap.size w V) (by kernel_rfl) HB.out.drew (fun hs0 => ?_)
            refine tk 0 (by assumption) rfl (by kernel_rfl) (fun _ _ _ h => h) (fun V hV => by go_simp; try with_reducible rfl) ?_
            try simp only [Act.put, sqA, sqB, sqC, sqD, sqE, sqF]
            refine tk 1 (by assumption) rfl (by kernel_rfl) (fun _ _ _ h => h) (fun V hV => by go_simp; try with_reducible rfl) ?_
            try simp only [Act.put, sqA, sqB, sqC, sqD, sqE, sqF]
            refine tk 2 (by assumption) rfl (by kernel_rfl) (fun _ _ _ h => h) (fun V hV => by go_simp; try with_reducible rfl) ?_
            try simp only [Act.put, sqA, sqB, sqC, sqD, sqE, sqF]
            refine tk 3 (by assumption) rfl (by kernel_rfl) (fun _ _ _ h => h) (tk_load 61 (.tmp 12) rfl b (o + k * 5) rfl (nC n) _ (fun V hV => HKK.out V hV) Tryz.underlying61 (by rfl) (by kernel_rfl)) ?_
            try simp only [Act.put, sqA, sqB, sqC, sqD, sqE, sqF]
            refine wpAnyH_ready (rs := [4]) (by kernel_rfl) (by simp) ?_
            refine AllReadyH.cons (o := _) rfl (fun K hK => ?_) AllReadyH.nil
            go_simp
            refine (HMAY.out _).mono ?_
            rintro e2 V4 ⟨rfl, hb2⟩
            skip
            go_wp2_with fail
            refine hK.out _ _ (gNx hs0 hb2) (fun hs0 => ?_)
            clear hK K
            try simp only [Act.put, sqA, sqB, sqC, sqD, sqE, sqF]
            refine tk 5 (by assumption) rfl (by kernel_rfl) (fun _ _ _ h => h) (fun V hV => by go_simp; try with_reducible rfl) ?_
            try simp only [Act.put, sqA, sqB, sqC, sqD, sqE, sqF]
            refine tk 6 (by assumption) rfl (by kernel_rfl) (fun _ _ _ h => h) (fun V hV => by go_simp; try with_reducible rfl) ?_
            try simp only [Act.put, sqA, sqB, sqC, sqD, sqE, sqF]
            refine tk 7 (by assumption) rfl (by kernel_rfl) (fun _ _ _ h => h) (fun V hV => by go_simp; try with_reducible rfl) ?_
            try simp only [Act.put, sqA, sqB, sqC, sqD, sqE, sqF]
            refine tk 8 (by assumption) rfl (by kernel_rfl) (fun _ _ _ h => h) (fun V hV => by go_simp; try with_reducible rfl) ?_
            try simp only [Act.put, sqA, sqB, sqC, sqD, sqE, sqF]
            refine tk 9 (by assumption) rfl (by kernel_rfl) (fun _ _ _ h => h) (fun V hV => by go_simp; try with_reducible rfl) ?_
            try simp only [Act.put, sqA, sqB, sqC, sqD, sqE, sqF]
            refine tk 10 (by assumption) rfl (by kernel_rfl) (fun _ _ _ h => h) (fun V hV => by go_simp; try with_reducible rfl) ?_
            try simp only [Act.put, sqA, sqB, sqC, sqD, sqE, sqF]
            refine tk 11 (by assumption) rfl (by kernel_rfl) (fun _ _ _ h => h) (fun V hV => by go_simp; try with_reducible rfl) ?_
            try simp only [Act.put, sqA, sqB, sqC, sqD, sqE, sqF]
            refine tk 12 (by assumption) rfl (by kernel_rfl) (fun _ _ _ h => h) (fun V hV => by go_simp; try with_reducible rfl) ?_
            try simp only [Act.put, sqA, sqB, sqC, sqD, sqE, sqF]
            refine tk 13 (by assumption) rfl (by kernel_rfl) (fun _ _ _ h => h) (fun V hV => by go_simp; try with_reducible rfl) ?_
            try simp only [Act.put, sqA, sqB, sqC, sqD, sqE, sqF]
            refine tk 14 (by assumption) rfl (by kernel_rfl) (fun _ _ _ h => h) (tk_load 61 (.tmp 23) rfl b (o + k1 * 5) rfl (nC n0) _ (fun V hV => HKP.out V hV) Tryz.underlying61 (by rfl) (by kernel_rfl)) ?_
            try simp only [Act.put, sqA, sqB, sqC, sqD, sqE, sqF]
            refine tk 15 (by assumption) rfl (by kernel_rfl) (fun _ _ _ h => h) (fun V hV => by go_simp; try with_reducible rfl) ?_
            try simp only [Act.put, sqA, sqB, sqC, sqD, sqE, sqF]
            refine tk 16 (by assumption) rfl (by kernel_rfl) (fun _ _ _ h => h) (fun V hV => by go_simp; try with_reducible rfl) ?_
            try simp only [Act.put, sqA, sqB, sqC, sqD, sqE, sqF]
            refine tk 17 (by assumption) rfl (by kernel_rfl) (fun _ _ _ h => h) (fun V hV => by go_simp; try with_reducible rfl) ?_
            try simp only [Act.put, sqA, sqB, sqC, sqD, sqE, sqF]
            refine tk 18 (by assumption) rfl (by kernel_rfl) (fun _ _ _ h => h) (tk_load 61 (.tmp 27) rfl b (o + k * 5) rfl (nC n) _ (fun V hV => HKK.out V hV) Tryz.underlying61 (by rfl) (by kernel_rfl)) ?_
            try simp only [Act.put, sqA, sqB, sqC, sqD, sqE, sqF]
            refine wpAnyH_ready (rs := [19]) (by kernel_rfl) (by simp) ?_
            refine AllReadyH.cons (o := _) rfl (fun K hK => ?_) AllReadyH.nil
            go_simp
            try rw [if_pos (by omega)]
            refine (HBEF.out _).mono ?_
            rintro e2 V19 ⟨rfl, hb2⟩
            skip
            go_wp2_with fail
            refine hK.out _ _ (gNx hs0 hb2) (fun hs0 => ?_)
            clear hK K
            try simp only [Act.put, sqA, sqB, sqC, sqD, sqE, sqF]
            refine tk 20 (by assumption) rfl (by kernel_rfl) (fun _ _ _ h => h) (fun V hV => by go_simp; try with_reducible rfl) ?_
            try simp only [Act.put, sqA, sqB, sqC, sqD, sqE, sqF]
            refine tk 21 (by assumption) rfl (by kernel_rfl) (fun _ _ _ h => h) (fun V hV => by go_simp; try with_reducible rfl) ?_
            try simp only [Act.put, sqA, sqB, sqC, sqD, sqE, sqF]
            refine tk 22 (by assumption) rfl (by kernel_rfl) (fun _ _ _ h => h) (fun V hV => by go_simp; try with_reducible rfl) ?_
            try simp only [Act.put, sqA, sqB, sqC, sqD, sqE, sqF]
            refine wpAnyH_done (by kernel_rfl) ?_ _
            go_wp2_with fail
            refine bodyPost_ret (v := .bool false) (by simp [results, Tryz.results47, go_sem]) rfl ?_
            exact ⟨by rw [HBAD.out], by assumption⟩
          | true =>
            have HNX : Hid (k + 1 ≤ l.length ∧ Pre l (k + 1)) := Lib.hid ⟨hlt, HPRE.out.next hlt hm (fun h => ha)⟩
            rw [ha] at HBEF
            clear hat hnk hnp hm hz ha hk1i
            generalize l[k - 1] = n0 at *
            generalize l[k] = n at *
            generalize hkk : k - 1 = k1 at *
            go_upto_region 4 with (fail)
            refine wp_region_held_drew (S := fun V => Below w.heap.size w V) (by kernel_rfl) HB.out.drew (fun hs0 => ?_)
            refine tk 0 (by assumption) rfl (by kernel_rfl) (fun _ _ _ h => h) (fun V hV => by go_simp; try with_reducible rfl) ?_
            try simp only [Act.put, sqA, sqB, sqC, sqD, sqE, sqF]
            refine tk 1 (by assumption) rfl (by kernel_rfl) (fun _ _ _ h => h) (fun V hV => by go_simp; try with_reducible rfl) ?_
            try simp only [Act.put, sqA, sqB, sqC, sqD, sqE, sqF]
            refine tk 2 (by assumption) rfl (by kernel_rfl) (fun _ _ _ h => h) (fun V hV => by go_simp; try with_reducible rfl) ?_
            try simp only [Act.put, sqA, sqB, sqC, sqD, sqE, sqF]
            refine tk 3 (by assumption) rfl (by kernel_rfl) (fun _ _ _ h => h) (tk_load 61 (.tmp 12) rfl b (o + k * 5) rfl (nC n) _ (fun V hV => HKK.out V hV) Tryz.underlying61 (by rfl) (by kernel_rfl)) ?_
            try simp only [Act.put, sqA, sqB, sqC, sqD, sqE, sqF]
            refine wpAnyH_ready (rs := [4]) (by kernel_rfl) (by simp) ?_
            refine AllReadyH.cons (o := _) rfl (fun K hK => ?_) AllReadyH.nil
            go_simp
            refine (HMAY.out _).mono ?_
            rintro e2 V4 ⟨rfl, hb2⟩
            skip
            go_wp2_with fail
            refine hK.out _ _ (gNx hs0 hb2) (fun hs0 => ?_)
            clear hK K
            try simp only [Act.put, sqA, sqB, sqC, sqD, sqE, sqF]
            refine tk 5 (by assumption) rfl (by kernel_rfl) (fun _ _ _ h => h) (fun V hV => by go_simp; try with_reducible rfl) ?_
            try simp only [Act.put, sqA, sqB, sqC, sqD, sqE, sqF]
            refine tk 6 (by assumption) rfl (by kernel_rfl) (fun _ _ _ h => h) (fun V hV => by go_simp; try with_reducible rfl) ?_
            try simp only [Act.put, sqA, sqB, sqC, sqD, sqE, sqF]
            refine tk 7 (by assumption) rfl (by kernel_rfl) (fun _ _ _ h => h) (fun V hV => by go_simp; try with_reducible rfl) ?_
            try simp only [Act.put, sqA, sqB, sqC, sqD, sqE, sqF]
            refine tk 8 (by assumption) rfl (by kernel_rfl) (fun _ _ _ h => h) (fun V hV => by go_simp; try with_reducible rfl) ?_
            try simp only [Act.put, sqA, sqB, sqC, sqD, sqE, sqF]
            refine tk 9 (by assumption) rfl (by kernel_rfl) (fun _ _ _ h => h) (fun V hV => by go_simp; try with_reducible rfl) ?_
            try simp only [Act.put, sqA, sqB, sqC, sqD, sqE, sqF]
            refine tk 10 (by assumption) rfl (by kernel_rfl) (fun _ _ _ h => h) (fun V hV => by go_simp; try with_reducible rfl) ?_
            try simp only [Act.put, sqA, sqB, sqC, sqD, sqE, sqF]
            refine tk 11 (by assumption) rfl (by kernel_rfl) (fun _ _ _ h => h) (fun V hV => by go_simp; try with_reducible rfl) ?_
            try simp only [Act.put, sqA, sqB, sqC, sqD, sqE, sqF]
            refine tk 12 (by assumption) rfl (by kernel_rfl) (fun _ _ _ h => h) (fun V hV => by go_simp; try with_reducible rfl) ?_
            try simp only [Act.put, sqA, sqB, sqC, sqD, sqE, sqF]
            refine tk 13 (by assumption) rfl (by kernel_rfl) (fun _ _ _ h => h) (fun V hV => by go_simp; try with_reducible rfl) ?_
            try simp only [Act.put, sqA, sqB, sqC, sqD, sqE, sqF]
            refine tk 14 (by assumption) rfl (by kernel_rfl) (fun _ _ _ h => h) (tk_load 61 (.tmp 23) rfl b (o + k1 * 5) rfl (nC n0) _ (fun V hV => HKP.out V hV) Tryz.underlying61 (by rfl) (by kernel_rfl)) ?_
            try simp only [Act.put, sqA, sqB, sqC, sqD, sqE, sqF]
            refine tk 15 (by assumption) rfl (by kernel_rfl) (fun _ _ _ h => h) (fun V hV => by go_simp; try with_reducible rfl) ?_
            try simp only [Act.put, sqA, sqB, sqC, sqD, sqE, sqF]
            refine tk 16 (by assumption) rfl (by kernel_rfl) (fun _ _ _ h => h) (fun V hV => by go_simp; try with_reducible rfl) ?_
            try simp only [Act.put, sqA, sqB, sqC, sqD, sqE, sqF]
            refine tk 17 (by assumption) rfl (by kernel_rfl) (fun _ _ _ h => h) (fun V hV => by go_simp; try with_reducible rfl) ?_
            try simp only [Act.put, sqA, sqB, sqC, sqD, sqE, sqF]
            refine tk 18 (by assumption) rfl (by kernel_rfl) (fun _ _ _ h => h) (tk_load 61 (.tmp 27) rfl b (o + k * 5) rfl (nC n) _ (fun V hV => HKK.out V hV) Tryz.underlying61 (by rfl) (by kernel_rfl)) ?_
            try simp only [Act.put, sqA, sqB, sqC, sqD, sqE, sqF]
            refine wpAnyH_ready (rs := [19]) (by kernel_rfl) (by simp) ?_
            refine AllReadyH.cons (o := _) rfl (fun K hK => ?_) AllReadyH.nil
            go_simp
            try rw [if_pos (by omega)]
            refine (HBEF.out _).mono ?_
            rintro e2 V19 ⟨rfl, hb2⟩
            skip
            go_wp2_with fail
            refine hK.out _ _ (gNx hs0 hb2) (fun hs0 => ?_)
            clear hK K
            try simp only [Act.put, sqA, sqB, sqC, sqD, sqE, sqF]
            refine tk 20 (by assumption) rfl (by kernel_rfl) (fun _ _ _ h => h) (fun V hV => by go_simp; try with_reducible rfl) ?_
            try simp only [Act.put, sqA, sqB, sqC, sqD, sqE, sqF]
            refine tk 21 (by assumption) rfl (by kernel_rfl) (fun _ _ _ h => h) (fun V hV => by go_simp; try with_reducible rfl) ?_
            try simp only [Act.put, sqA, sqB, sqC, sqD, sqE, sqF]
            refine tk 22 (by assumption) rfl (by kernel_rfl) (fun _ _ _ h => h) (fun V hV => by go_simp; try with_reducible rfl) ?_
            try simp only [Act.put, sqA, sqB, sqC, sqD, sqE, sqF]
            refine wpAnyH_done (by kernel_rfl) ?_ _
            go_wp2_with fail
            exact ⟨⟨k + 1, congrArg (Value.int .i64) (by omega), HNX.out.1, by assumption, HNX.out.2⟩, by show l.length - ((k : Int) + 1).toNat < l.length - (k : Int).toNat; omega⟩
    · have hnk : ¬ (k : Int) < (l.length : Int) := by omega
      have hkl : k = l.length := by omega
      have HG : Hid (orderB l = true) := Lib.hid (order_pre (by rw [hkl] at HPRE; exact HPRE.out))
      go_wp2_with fail
      refine bodyPost_ret (v := .bool true) (by simp [results, Tryz.results47, go_sem]) rfl ?_
      exact ⟨by rw [HG.out], hbel⟩
/-- A destination's news. -/
def fndN (l : List Nw) (kd ds : Int) : Option Nw := l.find? (fun x => x.kind == kd && x.dest == ds)
theorem fndN_at {l : List Nw} {kd ds : Int} {k : Nat} (hk : k < l.length) (hno : ∀ j (hj : j < l.length), j < k → ¬ (l[j].kind = kd ∧ l[j].dest = ds)) (h : l[k].kind = kd ∧ l[k].dest = ds) : fndN l kd ds = some l[k] := by
  unfold fndN
  rw [List.find?_eq_some_iff_getElem]
  refine ⟨by simp [h.1, h.2], k, hk, rfl, fun j hj => ?_⟩
  have := hno j (by omega) hj
  simp only [Bool.not_eq_true', Bool.and_eq_false_iff, beq_eq_false_iff_ne]
  by_cases e : l[j].kind = kd
  · right; exact fun e2 => this ⟨e, e2⟩
  · left; exact e
theorem fndN_none {l : List Nw} {kd ds : Int} (hno : ∀ j (hj : j < l.length), ¬ (l[j].kind = kd ∧ l[j].dest = ds)) : fndN l kd ds = none := by
  unfold fndN
  rw [List.find?_eq_none]
  intro x hx
  obtain ⟨j, hj, rfl⟩ := List.getElem_of_mem hx
  have := hno j hj
  simp only [Bool.and_eq_true, beq_iff_eq]
  exact this
set_option maxHeartbeats 8000000 in
theorem rFind_any (l : List Nw) (a : Option Addr) (c : Nat) (kd ds : Int) (w : World) (hin : NewsIn w w.heap.size l a) (hl62 : l.length < 4611686018427387904) :
    Calls Tryz.prog 40 #[.slice a l.length c, .int .i64 kd, .int .i64 ds] w fun e w' => e = .returned (.tuple #[nwV ((fndN l kd ds).getD zeroN), .bool (fndN l kd ds).isSome]) ∧ Below w.heap.size w w' := by
  have HIN := Lib.hid hin
  clear hin
  go_enter Tryz.func40, Tryz.ntmps40
  go_upto_region 1 with (fail)
  obtain ⟨W1, hW1⟩ : ∃ W1, W1 = w.alloc (.cells #[.int .i64 0, .int .i64 0, .float .f64 0, .float .f64 0, .int .i64 0] 61) := ⟨_, rfl⟩
  have hb1 : Below w.heap.size w W1 := by rw [hW1]; exact gAl _ _
  have ht1 : W1.there w.heap.size 0 5 ∧ W1.heap.size = w.heap.size + 1 := by rw [hW1]; exact ⟨there_box w (nC zeroN) 61, by simp⟩
  have HW1 := Lib.hid (And.intro hb1 ht1)
  clear hb1 ht1
  rw [← hW1]
  clear hW1
  go_wp2_with fail
  go_loopw [8] (fun ii wr => ∃ k : Nat, ii = .int .i64 (k : Int) ∧ k ≤ l.length ∧ wr = W1 ∧ ∀ j (hj : j < l.length), j < k → ¬ (l[j].kind = kd ∧ l[j].dest = ds)) (fun ii _ => l.length - (RowKit.intOf ii).toNat)
  case atStart => exact ⟨0, rfl, Nat.zero_le _, rfl, fun j hj h => by omega⟩
  case round =>
    obtain ⟨k, rfl, hk, rfl, hno⟩ := hrel
    have HNO := Lib.hid hno
    clear hno
    by_cases hlt : k < l.length
    · have hlti : (k : Int) < (l.length : Int) := by omega
      have hk0 : (0 : Int) ≤ (k : Int) := by omega
      have hkw : IntKind.i64.wrap ((k : Int) + 1) = (k : Int) + 1 := by rw [IntKind.wrap_i64]; omega
      obtain ⟨b, o, rfl, hb, hat⟩ := HIN.out.at k hlt
      obtain ⟨c0, c1, c2, c3, c4⟩ := (hat k hlt).kept (HW1.out.1.block b hb)
      have HSTEP : Hid (¬ (l[k].kind = kd ∧ l[k].dest = ds) → ∀ j (hj : j < l.length), j < k + 1 → ¬ (l[j].kind = kd ∧ l[j].dest = ds)) := Lib.hid (fun h j hj hjk => by
        by_cases e : j = k
        · subst e; exact h
        · exact HNO.out j hj (by omega))
      have HFND : Hid (l[k].kind = kd ∧ l[k].dest = ds → fndN l kd ds = some l[k]) := Lib.hid (fun h => fndN_at hlt HNO.out h)
      clear hat
      generalize l[k] = n at *
      by_cases e1 : n.kind = kd
      · have e1b : (n.kind == kd) = true := by simp [e1]
        by_cases e2 : n.dest = ds
        · have e2b : (n.dest == ds) = true := by simp [e2]
          have HF := Lib.hid (HFND.out ⟨e1, e2⟩)
          have HT := Lib.hid HW1.out.2.1
          clear e1 e2
          go_wp2_with (refine wpList_store_mid (by rfl) 61 (.tmp 6) (.tmp 34) rfl w.heap.size 0 (nC n).toArray rfl rfl HT.out (by kernel_rfl) (all_oneCell_toArray (nC_one n)) ?_)
          refine bodyPost_ret (v := .tuple #[nwV n, .bool true]) (results_cell2 Tryz.results40 _ _ w.heap.size 0 (nC n) _ rfl (World.rangeAt_setCells_same wr w.heap.size 0 (nC n) HT.out) Tryz.underlying61 (by rfl) (by kernel_rfl)) rfl ?_
          refine ⟨by rw [HF.out]; rfl, below_set w.heap.size (Nat.le_refl _) _ 0 _ HW1.out.1⟩
        · have e2b : (n.dest == ds) = false := by simp [e2]
          have HS := Lib.hid (HSTEP.out (fun h => e2 h.2))
          clear e1 e2
          go_wp2_with fail
          exact ⟨⟨k + 1, congrArg (Value.int .i64) (by omega), by omega, by simp, HS.out⟩, by show l.length - ((k : Int) + 1).toNat < l.length - (k : Int).toNat; omega⟩
      · have e1b : (n.kind == kd) = false := by simp [e1]
        have HS := Lib.hid (HSTEP.out (fun h => e1 h.1))
        clear e1
        go_wp2_with fail
        exact ⟨⟨k + 1, congrArg (Value.int .i64) (by omega), by omega, by simp, HS.out⟩, by show l.length - ((k : Int) + 1).toNat < l.length - (k : Int).toNat; omega⟩
    · have hnk : ¬ (k : Int) < (l.length : Int) := by omega
      have HF : Hid (fndN l kd ds = none) := Lib.hid (fndN_none (fun j hj => HNO.out j hj (by omega)))
      have HT := Lib.hid HW1.out.2.1
      go_wp2_with (refine wpList_store_mid (by rfl) 61 (.tmp 6) (.tmp 35) rfl w.heap.size 0 (nC zeroN).toArray rfl rfl HT.out (by kernel_rfl) (all_oneCell_toArray (nC_one zeroN)) ?_)
      refine bodyPost_ret (v := .tuple #[nwV zeroN, .bool false]) (results_cell2 Tryz.results40 _ _ w.heap.size 0 (nC zeroN) _ rfl (World.rangeAt_setCells_same wr w.heap.size 0 (nC zeroN) HT.out) Tryz.underlying61 (by rfl) (by kernel_rfl)) rfl ?_
      exact ⟨by rw [HF.out]; rfl, below_set w.heap.size (Nat.le_refl _) _ 0 _ HW1.out.1⟩
end Go.Proofs.YtjhmfmpaaljegaaGreat
