/- Deltas, the program: news that may be told, lists, whether two are the same; what an Out is. -/
import Derived.Test.YtfnmfmelcghjbaaDwA
namespace Go.Proofs.Ytfnmfmelcghjbaa
open Go.RowKit Go.Lib Go.Ow Go.Cw Go.Fq Go.Mq Go.Kq Go.Kw Go.Dq
set_option linter.unusedVariables false
set_option linter.unusedSimpArgs false
set_option maxRecDepth 100000

theorem rw_capD {w : World} {r : Nat} {l : List Nw} {a : Option Addr} {c : Nat} (h : Nr w r (.slice a l.length c) l) : l.length ≤ c ∧ c ≤ 9223372036854775807 := by
  rcases h with ⟨h0, h1, a', e⟩ | ⟨o, cp, cur, e, h1, h2, h3, -⟩
  · simp only [Value.slice.injEq] at e
    exact ⟨by omega, by omega⟩
  · cases e
    exact ⟨h2, by unfold maxLen at h3; omega⟩
/-- News as a slice. -/
structure Sl (w : World) (l : List Nw) (a : Option Addr) (c : Nat) : Prop where
  rows : NewsIn w w.heap.size l a
  cap : l.length ≤ c ∧ c ≤ 9223372036854775807
  len : (l.length + 1) * 40 ≤ 140737488355328
theorem Sl.below {w w2 : World} {l : List Nw} {a : Option Addr} {c : Nat} (h : Sl w l a c) (hb : Below w.heap.size w w2) : Sl w2 l a c := ⟨h.rows.kept (fun i hi => hb.block i hi) hb.size, h.cap, h.len⟩
theorem Sl.of_row {w : World} {r : Nat} {l : List Nw} {a : Option Addr} {c : Nat} (h : Nr w r (.slice a l.length c) l) (hl : (l.length + 1) * 40 ≤ 140737488355328) : Sl w l a c := ⟨(nr_nws h).news, rw_capD h, hl⟩
theorem Sl.nil (w : World) : Sl w [] none 0 := ⟨Or.inl rfl, by simp, by simp⟩
theorem Sl.none {w : World} {l : List Nw} {a : Option Addr} {c : Nat} (h : Sl w l a c) : a = none → l = [] := fun e => by
  rcases h.rows with h | ⟨b, o, h1, -⟩
  · exact h
  · rw [e] at h1; cases h1
/-- The first k are in order. -/
def PreD (l : List Nw) (k : Nat) : Prop := ∀ j (h : j < l.length), j < k → newsB l[j] = true ∧ (0 < j → aheadB (l[j - 1]'(by omega)) l[j] = true)
theorem PreD.next {l : List Nw} {k : Nat} (h : PreD l k) (hk : k < l.length) (h1 : newsB l[k] = true) (h2 : 0 < k → aheadB (l[k - 1]'(by omega)) l[k] = true) : PreD l (k + 1) := fun j hj hjk => by
  by_cases e : j = k
  · subst e; exact ⟨h1, h2⟩
  · exact h j hj (by omega)
theorem orderD_pre {l : List Nw} (h : PreD l l.length) : orderB l = true := order_iff.2 (fun j hj => h j hj hj)
theorem orderD_bad1 {l : List Nw} {k : Nat} (hk : k < l.length) (h : newsB l[k] = false) : orderB l = false := by
  rw [Bool.eq_false_iff]; intro ho
  have := (order_iff.1 ho k hk).1
  rw [h] at this; cases this
theorem orderD_bad2 {l : List Nw} {k : Nat} (hk : k < l.length) (h0 : 0 < k) (h : aheadB (l[k - 1]'(by omega)) l[k] = false) : orderB l = false := by
  rw [Bool.eq_false_iff]; intro ho
  have := (order_iff.1 ho k hk).2 h0
  rw [h] at this; cases this
theorem wd_of {n : Nw} (h : n.Fit) : Wd n := h.d
set_option maxHeartbeats 8000000 in
theorem dNews_any (l : List Nw) (a : Option Addr) (c : Nat) (w : World) (hsl : Sl w l a c) (hfit : ∀ n ∈ l, n.Fit) :
    Calls Try.prog 33 #[.slice a l.length c] w fun e w' => e = .returned (.bool (orderB l)) ∧ Below w.heap.size w w' := by
  have HSL := Lib.hid hsl
  have HFIT := Lib.hid hfit
  have hlc := hsl.cap
  have hl62 := hsl.len
  clear hsl hfit
  go_enter Try.func33, Try.ntmps33
  go_wp2_with fail
  go_loopw [6] (fun ii wr => ∃ k : Nat, ii = .int .i64 (k : Int) ∧ k ≤ l.length ∧ Below w.heap.size w wr ∧ PreD l k) (fun ii _ => l.length - (RowKit.intOf ii).toNat)
  case atStart => exact ⟨0, rfl, Nat.zero_le _, Below.refl _ _, fun j hj h => by omega⟩
  case round =>
    obtain ⟨k, rfl, hk, hbel, hpre⟩ := hrel
    have HPRE := Lib.hid hpre
    clear hpre
    by_cases hlt : k < l.length
    · have hlti : (k : Int) < (l.length : Int) := by omega
      have hk0 : (0 : Int) ≤ (k : Int) := by omega
      have hkw : IntKind.i64.wrap ((k : Int) + 1) = (k : Int) + 1 := by rw [IntKind.wrap_i64]; omega
      have hkc : (k : Int) + 1 ≤ (c : Int) := by omega
      have hkc2 : (k : Int) ≤ (k : Int) + 1 := by omega
      have hk10 : (0 : Int) ≤ (k : Int) + 1 := by omega
      obtain ⟨b, o, rfl, hb, hat⟩ := HSL.out.rows.at k hlt
      have HB := Lib.hid hbel
      have HKK : Hid (∀ V, Below w.heap.size w V → V.rangeAt b (o + k * 5) (nC l[k])) := Lib.hid (rngD hat hlt hb)
      have HMAY : Hid (∀ V, Below w.heap.size w V → Calls Try.prog 54 #[.slice (some ⟨b, o + k * 5, none⟩) 1 (c - k)] V fun e w' => e = .returned (.bool (newsB l[k])) ∧ Below V.heap.size V w') := Lib.hid (fun V hV => by
        have hin1 : NewsIn V V.heap.size [l[k]] (some ⟨b, o + k * 5, none⟩) := Or.inr ⟨b, o + k * 5, rfl, by have := hV.size; omega, fun j hj => by
          have : j = 0 := by simp at hj; omega
          subst this
          have := (hat k hlt).kept (hV.block b hb)
          simpa using this⟩
        have := dMay_any [l[k]] (some ⟨b, o + k * 5, none⟩) (c - k) V hin1 (fun n hn => by rw [List.mem_singleton.1 hn]; exact HFIT.out _ (List.getElem_mem _))
        rw [told_one] at this
        exact this)
      cases hm : newsB l[k] with
      | false =>
        have HBAD := Lib.hid (orderD_bad1 hlt hm)
        rw [hm] at HMAY
        clear hat hm
        generalize l[k] = n at *
        go_upto_region 4 with (fail)
        refine wp_region_held_drew (S := fun V => Below w.heap.size w V) (by kernel_rfl) HB.out.drew (fun hs0 => ?_)
        refine tk 0 (by assumption) rfl (by kernel_rfl) (fun _ _ _ h => h) (fun V hV => by go_simp; try with_reducible rfl) ?_
        try simp only [Act.put, sqA, sqB, sqC, sqD, sqE, sqF]
        refine tk 1 (by assumption) rfl (by kernel_rfl) (fun _ _ _ h => h) (fun V hV => by go_simp; try with_reducible rfl) ?_
        try simp only [Act.put, sqA, sqB, sqC, sqD, sqE, sqF]
        refine tk 2 (by assumption) rfl (by kernel_rfl) (fun _ _ _ h => h) (fun V hV => by go_simp; try with_reducible rfl) ?_
        try simp only [Act.put, sqA, sqB, sqC, sqD, sqE, sqF]
        refine tk 3 (by assumption) rfl (by kernel_rfl) (fun _ _ _ h => h) (fun V hV => by go_simp; try with_reducible rfl) ?_
        try simp only [Act.put, sqA, sqB, sqC, sqD, sqE, sqF]
        refine tk 4 (by assumption) rfl (by kernel_rfl) (fun _ _ _ h => h) (fun V hV => by go_simp; try with_reducible rfl) ?_
        try simp only [Act.put, sqA, sqB, sqC, sqD, sqE, sqF]
        refine wpAnyH_ready (rs := [5]) (by kernel_rfl) (by simp) ?_
        refine AllReadyH.cons (o := _) rfl (fun K hK => ?_) AllReadyH.nil
        go_simp
        try rw [if_neg (show ¬ c = k by omega)]
        refine (HMAY.out _ hs0).mono ?_
        rintro e2 V5 ⟨rfl, hb2⟩
        go_wp2_with fail
        refine hK.out _ _ (gNx hs0 hb2) (fun hs0 => ?_)
        clear hK K
        try simp only [Act.put, sqA, sqB, sqC, sqD, sqE, sqF]
        refine tk 6 (by assumption) rfl (by kernel_rfl) (fun _ _ _ h => h) (fun V hV => by go_simp; try with_reducible rfl) ?_
        try simp only [Act.put, sqA, sqB, sqC, sqD, sqE, sqF]
        refine tk 7 (by assumption) rfl (by kernel_rfl) (fun _ _ _ h => h) (fun V hV => by go_simp; try with_reducible rfl) ?_
        try simp only [Act.put, sqA, sqB, sqC, sqD, sqE, sqF]
        refine wpAnyH_take (i := 8) (oi := _) (v := undef) rfl (by kernel_rfl) (by kernel_rfl) (by kernel_rfl) (fun _ _ _ h => h) (Or.inr ⟨by kernel_rfl, rfl⟩) (by assumption) ?_
        try simp only [Act.put, sqA, sqB, sqC, sqD, sqE, sqF]
        refine wpAnyH_take (i := 9) (oi := _) (v := undef) rfl (by kernel_rfl) (by kernel_rfl) (by kernel_rfl) (fun _ _ _ h => h) (Or.inr ⟨by kernel_rfl, rfl⟩) (by assumption) ?_
        try simp only [Act.put, sqA, sqB, sqC, sqD, sqE, sqF]
        refine wpAnyH_take (i := 10) (oi := _) (v := undef) rfl (by kernel_rfl) (by kernel_rfl) (by kernel_rfl) (fun _ _ _ h => h) (Or.inr ⟨by kernel_rfl, rfl⟩) (by assumption) ?_
        try simp only [Act.put, sqA, sqB, sqC, sqD, sqE, sqF]
        refine wpAnyH_take (i := 11) (oi := _) (v := undef) rfl (by kernel_rfl) (by kernel_rfl) (by kernel_rfl) (fun _ _ _ h => h) (Or.inr ⟨by kernel_rfl, rfl⟩) (by assumption) ?_
        try simp only [Act.put, sqA, sqB, sqC, sqD, sqE, sqF]
        refine wpAnyH_take (i := 12) (oi := _) (v := undef) rfl (by kernel_rfl) (by kernel_rfl) (by kernel_rfl) (fun _ _ _ h => h) (Or.inr ⟨by kernel_rfl, rfl⟩) (by assumption) ?_
        try simp only [Act.put, sqA, sqB, sqC, sqD, sqE, sqF]
        refine wpAnyH_take (i := 13) (oi := _) (v := undef) rfl (by kernel_rfl) (by kernel_rfl) (by kernel_rfl) (fun _ _ _ h => h) (Or.inr ⟨by kernel_rfl, rfl⟩) (by assumption) ?_
        try simp only [Act.put, sqA, sqB, sqC, sqD, sqE, sqF]
        refine wpAnyH_take (i := 14) (oi := _) (v := undef) rfl (by kernel_rfl) (by kernel_rfl) (by kernel_rfl) (fun _ _ _ h => h) (Or.inr ⟨by kernel_rfl, rfl⟩) (by assumption) ?_
        try simp only [Act.put, sqA, sqB, sqC, sqD, sqE, sqF]
        refine wpAnyH_take (i := 15) (oi := _) (v := undef) rfl (by kernel_rfl) (by kernel_rfl) (by kernel_rfl) (fun _ _ _ h => h) (Or.inr ⟨by kernel_rfl, rfl⟩) (by assumption) ?_
        try simp only [Act.put, sqA, sqB, sqC, sqD, sqE, sqF]
        refine wpAnyH_take (i := 16) (oi := _) (v := undef) rfl (by kernel_rfl) (by kernel_rfl) (by kernel_rfl) (fun _ _ _ h => h) (Or.inr ⟨by kernel_rfl, rfl⟩) (by assumption) ?_
        try simp only [Act.put, sqA, sqB, sqC, sqD, sqE, sqF]
        refine wpAnyH_take (i := 17) (oi := _) (v := undef) rfl (by kernel_rfl) (by kernel_rfl) (by kernel_rfl) (fun _ _ _ h => h) (Or.inr ⟨by kernel_rfl, rfl⟩) (by assumption) ?_
        try simp only [Act.put, sqA, sqB, sqC, sqD, sqE, sqF]
        refine wpAnyH_take (i := 18) (oi := _) (v := undef) rfl (by kernel_rfl) (by kernel_rfl) (by kernel_rfl) (fun _ _ _ h => h) (Or.inr ⟨by kernel_rfl, rfl⟩) (by assumption) ?_
        try simp only [Act.put, sqA, sqB, sqC, sqD, sqE, sqF]
        refine wpAnyH_take (i := 19) (oi := _) (v := undef) rfl (by kernel_rfl) (by kernel_rfl) (by kernel_rfl) (fun _ _ _ h => h) (Or.inr ⟨by kernel_rfl, rfl⟩) (by assumption) ?_
        try simp only [Act.put, sqA, sqB, sqC, sqD, sqE, sqF]
        refine wpAnyH_take (i := 20) (oi := _) (v := undef) rfl (by kernel_rfl) (by kernel_rfl) (by kernel_rfl) (fun _ _ _ h => h) (Or.inr ⟨by kernel_rfl, rfl⟩) (by assumption) ?_
        try simp only [Act.put, sqA, sqB, sqC, sqD, sqE, sqF]
        refine wpAnyH_take (i := 21) (oi := _) (v := undef) rfl (by kernel_rfl) (by kernel_rfl) (by kernel_rfl) (fun _ _ _ h => h) (Or.inr ⟨by kernel_rfl, rfl⟩) (by assumption) ?_
        try simp only [Act.put, sqA, sqB, sqC, sqD, sqE, sqF]
        refine wpAnyH_take (i := 22) (oi := _) (v := undef) rfl (by kernel_rfl) (by kernel_rfl) (by kernel_rfl) (fun _ _ _ h => h) (Or.inr ⟨by kernel_rfl, rfl⟩) (by assumption) ?_
        try simp only [Act.put, sqA, sqB, sqC, sqD, sqE, sqF]
        refine tk 23 (by assumption) rfl (by kernel_rfl) (fun _ _ _ h => h) (fun V hV => by go_simp; try with_reducible rfl) ?_
        try simp only [Act.put, sqA, sqB, sqC, sqD, sqE, sqF]
        refine wpAnyH_done (by kernel_rfl) ?_ _
        go_wp2_with fail
        refine bodyPost_ret (v := .bool false) (by simp [results, Try.results33, go_sem]) rfl ?_
        exact ⟨by rw [HBAD.out], by assumption⟩
      | true =>
        rw [hm] at HMAY
        by_cases hz : k = 0
        · have HNX : Hid (k + 1 ≤ l.length ∧ PreD l (k + 1)) := Lib.hid ⟨hlt, HPRE.out.next hlt hm (fun h => by omega)⟩
          have hkz : ¬ 0 < k := by omega
          clear hat hm hz
          generalize l[k] = n at *
          go_upto_region 4 with (fail)
          refine wp_region_held_drew (S := fun V => Below w.heap.size w V) (by kernel_rfl) HB.out.drew (fun hs0 => ?_)
          refine tk 0 (by assumption) rfl (by kernel_rfl) (fun _ _ _ h => h) (fun V hV => by go_simp; try with_reducible rfl) ?_
          try simp only [Act.put, sqA, sqB, sqC, sqD, sqE, sqF]
          refine tk 1 (by assumption) rfl (by kernel_rfl) (fun _ _ _ h => h) (fun V hV => by go_simp; try with_reducible rfl) ?_
          try simp only [Act.put, sqA, sqB, sqC, sqD, sqE, sqF]
          refine tk 2 (by assumption) rfl (by kernel_rfl) (fun _ _ _ h => h) (fun V hV => by go_simp; try with_reducible rfl) ?_
          try simp only [Act.put, sqA, sqB, sqC, sqD, sqE, sqF]
          refine tk 3 (by assumption) rfl (by kernel_rfl) (fun _ _ _ h => h) (fun V hV => by go_simp; try with_reducible rfl) ?_
          try simp only [Act.put, sqA, sqB, sqC, sqD, sqE, sqF]
          refine tk 4 (by assumption) rfl (by kernel_rfl) (fun _ _ _ h => h) (fun V hV => by go_simp; try with_reducible rfl) ?_
          try simp only [Act.put, sqA, sqB, sqC, sqD, sqE, sqF]
          refine wpAnyH_ready (rs := [5]) (by kernel_rfl) (by simp) ?_
          refine AllReadyH.cons (o := _) rfl (fun K hK => ?_) AllReadyH.nil
          go_simp
          try rw [if_neg (show ¬ c = k by omega)]
          refine (HMAY.out _ hs0).mono ?_
          rintro e2 V5 ⟨rfl, hb2⟩
          go_wp2_with fail
          refine hK.out _ _ (gNx hs0 hb2) (fun hs0 => ?_)
          clear hK K
          try simp only [Act.put, sqA, sqB, sqC, sqD, sqE, sqF]
          refine tk 6 (by assumption) rfl (by kernel_rfl) (fun _ _ _ h => h) (fun V hV => by go_simp; try with_reducible rfl) ?_
          try simp only [Act.put, sqA, sqB, sqC, sqD, sqE, sqF]
          refine tk 7 (by assumption) rfl (by kernel_rfl) (fun _ _ _ h => h) (fun V hV => by go_simp; try with_reducible rfl) ?_
          try simp only [Act.put, sqA, sqB, sqC, sqD, sqE, sqF]
          refine tk 8 (by assumption) rfl (by kernel_rfl) (fun _ _ _ h => h) (fun V hV => by go_simp; try with_reducible rfl) ?_
          try simp only [Act.put, sqA, sqB, sqC, sqD, sqE, sqF]
          refine tk 9 (by assumption) rfl (by kernel_rfl) (fun _ _ _ h => h) (fun V hV => by go_simp; try with_reducible rfl) ?_
          try simp only [Act.put, sqA, sqB, sqC, sqD, sqE, sqF]
          refine tk 10 (by assumption) rfl (by kernel_rfl) (fun _ _ _ h => h) (fun V hV => by go_simp; try with_reducible rfl) ?_
          try simp only [Act.put, sqA, sqB, sqC, sqD, sqE, sqF]
          refine wpAnyH_take (i := 11) (oi := _) (v := undef) rfl (by kernel_rfl) (by kernel_rfl) (by kernel_rfl) (fun _ _ _ h => h) (Or.inr ⟨by kernel_rfl, rfl⟩) (by assumption) ?_
          try simp only [Act.put, sqA, sqB, sqC, sqD, sqE, sqF]
          refine wpAnyH_take (i := 12) (oi := _) (v := undef) rfl (by kernel_rfl) (by kernel_rfl) (by kernel_rfl) (fun _ _ _ h => h) (Or.inr ⟨by kernel_rfl, rfl⟩) (by assumption) ?_
          try simp only [Act.put, sqA, sqB, sqC, sqD, sqE, sqF]
          refine wpAnyH_take (i := 13) (oi := _) (v := undef) rfl (by kernel_rfl) (by kernel_rfl) (by kernel_rfl) (fun _ _ _ h => h) (Or.inr ⟨by kernel_rfl, rfl⟩) (by assumption) ?_
          try simp only [Act.put, sqA, sqB, sqC, sqD, sqE, sqF]
          refine wpAnyH_take (i := 14) (oi := _) (v := undef) rfl (by kernel_rfl) (by kernel_rfl) (by kernel_rfl) (fun _ _ _ h => h) (Or.inr ⟨by kernel_rfl, rfl⟩) (by assumption) ?_
          try simp only [Act.put, sqA, sqB, sqC, sqD, sqE, sqF]
          refine wpAnyH_take (i := 15) (oi := _) (v := undef) rfl (by kernel_rfl) (by kernel_rfl) (by kernel_rfl) (fun _ _ _ h => h) (Or.inr ⟨by kernel_rfl, rfl⟩) (by assumption) ?_
          try simp only [Act.put, sqA, sqB, sqC, sqD, sqE, sqF]
          refine wpAnyH_take (i := 16) (oi := _) (v := undef) rfl (by kernel_rfl) (by kernel_rfl) (by kernel_rfl) (fun _ _ _ h => h) (Or.inr ⟨by kernel_rfl, rfl⟩) (by assumption) ?_
          try simp only [Act.put, sqA, sqB, sqC, sqD, sqE, sqF]
          refine wpAnyH_take (i := 17) (oi := _) (v := undef) rfl (by kernel_rfl) (by kernel_rfl) (by kernel_rfl) (fun _ _ _ h => h) (Or.inr ⟨by kernel_rfl, rfl⟩) (by assumption) ?_
          try simp only [Act.put, sqA, sqB, sqC, sqD, sqE, sqF]
          refine wpAnyH_take (i := 18) (oi := _) (v := undef) rfl (by kernel_rfl) (by kernel_rfl) (by kernel_rfl) (fun _ _ _ h => h) (Or.inr ⟨by kernel_rfl, rfl⟩) (by assumption) ?_
          try simp only [Act.put, sqA, sqB, sqC, sqD, sqE, sqF]
          refine wpAnyH_take (i := 19) (oi := _) (v := undef) rfl (by kernel_rfl) (by kernel_rfl) (by kernel_rfl) (fun _ _ _ h => h) (Or.inr ⟨by kernel_rfl, rfl⟩) (by assumption) ?_
          try simp only [Act.put, sqA, sqB, sqC, sqD, sqE, sqF]
          refine wpAnyH_take (i := 20) (oi := _) (v := undef) rfl (by kernel_rfl) (by kernel_rfl) (by kernel_rfl) (fun _ _ _ h => h) (Or.inr ⟨by kernel_rfl, rfl⟩) (by assumption) ?_
          try simp only [Act.put, sqA, sqB, sqC, sqD, sqE, sqF]
          refine wpAnyH_take (i := 21) (oi := _) (v := undef) rfl (by kernel_rfl) (by kernel_rfl) (by kernel_rfl) (fun _ _ _ h => h) (Or.inr ⟨by kernel_rfl, rfl⟩) (by assumption) ?_
          try simp only [Act.put, sqA, sqB, sqC, sqD, sqE, sqF]
          refine tk 22 (by assumption) rfl (by kernel_rfl) (fun _ _ _ h => h) (fun V hV => by go_simp; try with_reducible rfl) ?_
          try simp only [Act.put, sqA, sqB, sqC, sqD, sqE, sqF]
          refine tk 23 (by assumption) rfl (by kernel_rfl) (fun _ _ _ h => h) (fun V hV => by go_simp; try with_reducible rfl) ?_
          try simp only [Act.put, sqA, sqB, sqC, sqD, sqE, sqF]
          refine wpAnyH_done (by kernel_rfl) ?_ _
          go_wp2_with fail
          exact ⟨⟨k + 1, congrArg (Value.int .i64) (by omega), HNX.out.1, by assumption, HNX.out.2⟩, by show l.length - ((k : Int) + 1).toNat < l.length - (k : Int).toNat; omega⟩
        · have hkz : 0 < k := by omega
          have hk1 : k - 1 < l.length := by omega
          have hk1i : ((k : Int) - 1) = ((k - 1 : Nat) : Int) := by omega
          have hkw1 : IntKind.i64.wrap ((k : Int) - 1) = ((k - 1 : Nat) : Int) := by rw [IntKind.wrap_i64]; omega
          have hk1l : ((k - 1 : Nat) : Int) < (l.length : Int) := by omega
          have hk10 : (0 : Int) ≤ ((k - 1 : Nat) : Int) := by omega
          have HKP : Hid (∀ V, Below w.heap.size w V → V.rangeAt b (o + (k - 1) * 5) (nC l[k - 1])) := Lib.hid (rngD hat hk1 hb)
          have HBEF := Lib.hid (fun W => dBy_any l[k - 1] l[k] W)
          have hm1 := (HPRE.out (k - 1) hk1 (by omega)).1
          have eah := ahead_ky hm1 hm
          have ebn := byD_neg (wd_of (HFIT.out _ (List.getElem_mem hk1))) (wd_of (HFIT.out _ (List.getElem_mem hlt)))
          cases ha : aheadB l[k - 1] l[k] with
          | false =>
            have HBAD := Lib.hid (orderD_bad2 hlt (by omega) ha)
            rw [ha] at eah
            have hneg : ¬ byD l[k - 1] l[k] < 0 := fun h => by have h2 := ebn.1 h; rw [decide_eq_true h2] at eah; cases eah
            clear hat hm hm1 hz ha hk1i eah ebn
            generalize l[k - 1] = n0 at *
            generalize l[k] = n at *
            generalize hkk : k - 1 = k1 at *
            generalize byD n0 n = bv at *
            have hge : (0 : Int) ≤ bv := by omega
            go_upto_region 4 with (fail)
            refine wp_region_held_drew (S := fun V => Below w.heap.size w V) (by kernel_rfl) HB.out.drew (fun hs0 => ?_)
            refine tk 0 (by assumption) rfl (by kernel_rfl) (fun _ _ _ h => h) (fun V hV => by go_simp; try with_reducible rfl) ?_
            try simp only [Act.put, sqA, sqB, sqC, sqD, sqE, sqF]
            refine tk 1 (by assumption) rfl (by kernel_rfl) (fun _ _ _ h => h) (fun V hV => by go_simp; try with_reducible rfl) ?_
            try simp only [Act.put, sqA, sqB, sqC, sqD, sqE, sqF]
            refine tk 2 (by assumption) rfl (by kernel_rfl) (fun _ _ _ h => h) (fun V hV => by go_simp; try with_reducible rfl) ?_
            try simp only [Act.put, sqA, sqB, sqC, sqD, sqE, sqF]
            refine tk 3 (by assumption) rfl (by kernel_rfl) (fun _ _ _ h => h) (fun V hV => by go_simp; try with_reducible rfl) ?_
            try simp only [Act.put, sqA, sqB, sqC, sqD, sqE, sqF]
            refine tk 4 (by assumption) rfl (by kernel_rfl) (fun _ _ _ h => h) (fun V hV => by go_simp; try with_reducible rfl) ?_
            try simp only [Act.put, sqA, sqB, sqC, sqD, sqE, sqF]
            refine wpAnyH_ready (rs := [5]) (by kernel_rfl) (by simp) ?_
            refine AllReadyH.cons (o := _) rfl (fun K hK => ?_) AllReadyH.nil
            go_simp
            try rw [if_neg (show ¬ c = k by omega)]
            refine (HMAY.out _ hs0).mono ?_
            rintro e2 V5 ⟨rfl, hb2⟩
            go_wp2_with fail
            refine hK.out _ _ (gNx hs0 hb2) (fun hs0 => ?_)
            clear hK K
            try simp only [Act.put, sqA, sqB, sqC, sqD, sqE, sqF]
            refine tk 6 (by assumption) rfl (by kernel_rfl) (fun _ _ _ h => h) (fun V hV => by go_simp; try with_reducible rfl) ?_
            try simp only [Act.put, sqA, sqB, sqC, sqD, sqE, sqF]
            refine tk 7 (by assumption) rfl (by kernel_rfl) (fun _ _ _ h => h) (fun V hV => by go_simp; try with_reducible rfl) ?_
            try simp only [Act.put, sqA, sqB, sqC, sqD, sqE, sqF]
            refine tk 8 (by assumption) rfl (by kernel_rfl) (fun _ _ _ h => h) (fun V hV => by go_simp; try with_reducible rfl) ?_
            try simp only [Act.put, sqA, sqB, sqC, sqD, sqE, sqF]
            refine tk 9 (by assumption) rfl (by kernel_rfl) (fun _ _ _ h => h) (fun V hV => by go_simp; try with_reducible rfl) ?_
            try simp only [Act.put, sqA, sqB, sqC, sqD, sqE, sqF]
            refine tk 10 (by assumption) rfl (by kernel_rfl) (fun _ _ _ h => h) (fun V hV => by go_simp; try with_reducible rfl) ?_
            try simp only [Act.put, sqA, sqB, sqC, sqD, sqE, sqF]
            refine tk 11 (by assumption) rfl (by kernel_rfl) (fun _ _ _ h => h) (fun V hV => by go_simp; try with_reducible rfl) ?_
            try simp only [Act.put, sqA, sqB, sqC, sqD, sqE, sqF]
            refine tk 12 (by assumption) rfl (by kernel_rfl) (fun _ _ _ h => h) (fun V hV => by go_simp; try with_reducible rfl) ?_
            try simp only [Act.put, sqA, sqB, sqC, sqD, sqE, sqF]
            refine tk 13 (by assumption) rfl (by kernel_rfl) (fun _ _ _ h => h) (fun V hV => by go_simp; try with_reducible rfl) ?_
            try simp only [Act.put, sqA, sqB, sqC, sqD, sqE, sqF]
            refine tk 14 (by assumption) rfl (by kernel_rfl) (fun _ _ _ h => h) (fun V hV => by go_simp; try with_reducible rfl) ?_
            try simp only [Act.put, sqA, sqB, sqC, sqD, sqE, sqF]
            refine tk 15 (by assumption) rfl (by kernel_rfl) (fun _ _ _ h => h) (tk_load 63 (.tmp 23) rfl b (o + k1 * 5) rfl (nC n0) _ (fun V hV => HKP.out V hV) Try.underlying63 (by rfl) (by kernel_rfl)) ?_
            try simp only [Act.put, sqA, sqB, sqC, sqD, sqE, sqF]
            refine tk 16 (by assumption) rfl (by kernel_rfl) (fun _ _ _ h => h) (fun V hV => by go_simp; try with_reducible rfl) ?_
            try simp only [Act.put, sqA, sqB, sqC, sqD, sqE, sqF]
            refine tk 17 (by assumption) rfl (by kernel_rfl) (fun _ _ _ h => h) (fun V hV => by go_simp; try with_reducible rfl) ?_
            try simp only [Act.put, sqA, sqB, sqC, sqD, sqE, sqF]
            refine tk 18 (by assumption) rfl (by kernel_rfl) (fun _ _ _ h => h) (fun V hV => by go_simp; try with_reducible rfl) ?_
            try simp only [Act.put, sqA, sqB, sqC, sqD, sqE, sqF]
            refine tk 19 (by assumption) rfl (by kernel_rfl) (fun _ _ _ h => h) (tk_load 63 (.tmp 27) rfl b (o + k * 5) rfl (nC n) _ (fun V hV => HKK.out V hV) Try.underlying63 (by rfl) (by kernel_rfl)) ?_
            try simp only [Act.put, sqA, sqB, sqC, sqD, sqE, sqF]
            refine wpAnyH_ready (rs := [20]) (by kernel_rfl) (by simp) ?_
            refine AllReadyH.cons (o := _) rfl (fun K hK => ?_) AllReadyH.nil
            go_simp
            try rw [if_pos (by omega)]
            refine (HBEF.out _).mono ?_
            rintro e2 V20 ⟨rfl, hb2⟩
            go_wp2_with fail
            refine hK.out _ _ (gNx hs0 hb2) (fun hs0 => ?_)
            clear hK K
            try simp only [Act.put, sqA, sqB, sqC, sqD, sqE, sqF]
            refine tk 21 (by assumption) rfl (by kernel_rfl) (fun _ _ _ h => h) (fun V hV => by go_simp; try with_reducible rfl) ?_
            try simp only [Act.put, sqA, sqB, sqC, sqD, sqE, sqF]
            refine tk 22 (by assumption) rfl (by kernel_rfl) (fun _ _ _ h => h) (fun V hV => by go_simp; try with_reducible rfl) ?_
            try simp only [Act.put, sqA, sqB, sqC, sqD, sqE, sqF]
            refine tk 23 (by assumption) rfl (by kernel_rfl) (fun _ _ _ h => h) (fun V hV => by go_simp; try with_reducible rfl) ?_
            try simp only [Act.put, sqA, sqB, sqC, sqD, sqE, sqF]
            refine wpAnyH_done (by kernel_rfl) ?_ _
            go_wp2_with fail
            refine bodyPost_ret (v := .bool false) (by simp [results, Try.results33, go_sem]) rfl ?_
            exact ⟨by rw [HBAD.out], by assumption⟩
          | true =>
            have HNX : Hid (k + 1 ≤ l.length ∧ PreD l (k + 1)) := Lib.hid ⟨hlt, HPRE.out.next hlt hm (fun h => ha)⟩
            rw [ha] at eah
            have hneg : byD l[k - 1] l[k] < 0 := ebn.2 (of_decide_eq_true eah.symm)
            clear hat hm hm1 hz ha hk1i eah ebn
            generalize l[k - 1] = n0 at *
            generalize l[k] = n at *
            generalize hkk : k - 1 = k1 at *
            generalize byD n0 n = bv at *
            have hge : ¬ (0 : Int) ≤ bv := by omega
            go_upto_region 4 with (fail)
            refine wp_region_held_drew (S := fun V => Below w.heap.size w V) (by kernel_rfl) HB.out.drew (fun hs0 => ?_)
            refine tk 0 (by assumption) rfl (by kernel_rfl) (fun _ _ _ h => h) (fun V hV => by go_simp; try with_reducible rfl) ?_
            try simp only [Act.put, sqA, sqB, sqC, sqD, sqE, sqF]
            refine tk 1 (by assumption) rfl (by kernel_rfl) (fun _ _ _ h => h) (fun V hV => by go_simp; try with_reducible rfl) ?_
            try simp only [Act.put, sqA, sqB, sqC, sqD, sqE, sqF]
            refine tk 2 (by assumption) rfl (by kernel_rfl) (fun _ _ _ h => h) (fun V hV => by go_simp; try with_reducible rfl) ?_
            try simp only [Act.put, sqA, sqB, sqC, sqD, sqE, sqF]
            refine tk 3 (by assumption) rfl (by kernel_rfl) (fun _ _ _ h => h) (fun V hV => by go_simp; try with_reducible rfl) ?_
            try simp only [Act.put, sqA, sqB, sqC, sqD, sqE, sqF]
            refine tk 4 (by assumption) rfl (by kernel_rfl) (fun _ _ _ h => h) (fun V hV => by go_simp; try with_reducible rfl) ?_
            try simp only [Act.put, sqA, sqB, sqC, sqD, sqE, sqF]
            refine wpAnyH_ready (rs := [5]) (by kernel_rfl) (by simp) ?_
            refine AllReadyH.cons (o := _) rfl (fun K hK => ?_) AllReadyH.nil
            go_simp
            try rw [if_neg (show ¬ c = k by omega)]
            refine (HMAY.out _ hs0).mono ?_
            rintro e2 V5 ⟨rfl, hb2⟩
            go_wp2_with fail
            refine hK.out _ _ (gNx hs0 hb2) (fun hs0 => ?_)
            clear hK K
            try simp only [Act.put, sqA, sqB, sqC, sqD, sqE, sqF]
            refine tk 6 (by assumption) rfl (by kernel_rfl) (fun _ _ _ h => h) (fun V hV => by go_simp; try with_reducible rfl) ?_
            try simp only [Act.put, sqA, sqB, sqC, sqD, sqE, sqF]
            refine tk 7 (by assumption) rfl (by kernel_rfl) (fun _ _ _ h => h) (fun V hV => by go_simp; try with_reducible rfl) ?_
            try simp only [Act.put, sqA, sqB, sqC, sqD, sqE, sqF]
            refine tk 8 (by assumption) rfl (by kernel_rfl) (fun _ _ _ h => h) (fun V hV => by go_simp; try with_reducible rfl) ?_
            try simp only [Act.put, sqA, sqB, sqC, sqD, sqE, sqF]
            refine tk 9 (by assumption) rfl (by kernel_rfl) (fun _ _ _ h => h) (fun V hV => by go_simp; try with_reducible rfl) ?_
            try simp only [Act.put, sqA, sqB, sqC, sqD, sqE, sqF]
            refine tk 10 (by assumption) rfl (by kernel_rfl) (fun _ _ _ h => h) (fun V hV => by go_simp; try with_reducible rfl) ?_
            try simp only [Act.put, sqA, sqB, sqC, sqD, sqE, sqF]
            refine tk 11 (by assumption) rfl (by kernel_rfl) (fun _ _ _ h => h) (fun V hV => by go_simp; try with_reducible rfl) ?_
            try simp only [Act.put, sqA, sqB, sqC, sqD, sqE, sqF]
            refine tk 12 (by assumption) rfl (by kernel_rfl) (fun _ _ _ h => h) (fun V hV => by go_simp; try with_reducible rfl) ?_
            try simp only [Act.put, sqA, sqB, sqC, sqD, sqE, sqF]
            refine tk 13 (by assumption) rfl (by kernel_rfl) (fun _ _ _ h => h) (fun V hV => by go_simp; try with_reducible rfl) ?_
            try simp only [Act.put, sqA, sqB, sqC, sqD, sqE, sqF]
            refine tk 14 (by assumption) rfl (by kernel_rfl) (fun _ _ _ h => h) (fun V hV => by go_simp; try with_reducible rfl) ?_
            try simp only [Act.put, sqA, sqB, sqC, sqD, sqE, sqF]
            refine tk 15 (by assumption) rfl (by kernel_rfl) (fun _ _ _ h => h) (tk_load 63 (.tmp 23) rfl b (o + k1 * 5) rfl (nC n0) _ (fun V hV => HKP.out V hV) Try.underlying63 (by rfl) (by kernel_rfl)) ?_
            try simp only [Act.put, sqA, sqB, sqC, sqD, sqE, sqF]
            refine tk 16 (by assumption) rfl (by kernel_rfl) (fun _ _ _ h => h) (fun V hV => by go_simp; try with_reducible rfl) ?_
            try simp only [Act.put, sqA, sqB, sqC, sqD, sqE, sqF]
            refine tk 17 (by assumption) rfl (by kernel_rfl) (fun _ _ _ h => h) (fun V hV => by go_simp; try with_reducible rfl) ?_
            try simp only [Act.put, sqA, sqB, sqC, sqD, sqE, sqF]
            refine tk 18 (by assumption) rfl (by kernel_rfl) (fun _ _ _ h => h) (fun V hV => by go_simp; try with_reducible rfl) ?_
            try simp only [Act.put, sqA, sqB, sqC, sqD, sqE, sqF]
            refine tk 19 (by assumption) rfl (by kernel_rfl) (fun _ _ _ h => h) (tk_load 63 (.tmp 27) rfl b (o + k * 5) rfl (nC n) _ (fun V hV => HKK.out V hV) Try.underlying63 (by rfl) (by kernel_rfl)) ?_
            try simp only [Act.put, sqA, sqB, sqC, sqD, sqE, sqF]
            refine wpAnyH_ready (rs := [20]) (by kernel_rfl) (by simp) ?_
            refine AllReadyH.cons (o := _) rfl (fun K hK => ?_) AllReadyH.nil
            go_simp
            try rw [if_pos (by omega)]
            refine (HBEF.out _).mono ?_
            rintro e2 V20 ⟨rfl, hb2⟩
            go_wp2_with fail
            refine hK.out _ _ (gNx hs0 hb2) (fun hs0 => ?_)
            clear hK K
            try simp only [Act.put, sqA, sqB, sqC, sqD, sqE, sqF]
            refine tk 21 (by assumption) rfl (by kernel_rfl) (fun _ _ _ h => h) (fun V hV => by go_simp; try with_reducible rfl) ?_
            try simp only [Act.put, sqA, sqB, sqC, sqD, sqE, sqF]
            refine tk 22 (by assumption) rfl (by kernel_rfl) (fun _ _ _ h => h) (fun V hV => by go_simp; try with_reducible rfl) ?_
            try simp only [Act.put, sqA, sqB, sqC, sqD, sqE, sqF]
            refine tk 23 (by assumption) rfl (by kernel_rfl) (fun _ _ _ h => h) (fun V hV => by go_simp; try with_reducible rfl) ?_
            try simp only [Act.put, sqA, sqB, sqC, sqD, sqE, sqF]
            refine wpAnyH_done (by kernel_rfl) ?_ _
            go_wp2_with fail
            exact ⟨⟨k + 1, congrArg (Value.int .i64) (by omega), HNX.out.1, by assumption, HNX.out.2⟩, by show l.length - ((k : Int) + 1).toNat < l.length - (k : Int).toNat; omega⟩
    · have hnk : ¬ (k : Int) < (l.length : Int) := by omega
      have hkl : k = l.length := by omega
      have HG : Hid (orderB l = true) := Lib.hid (orderD_pre (by rw [hkl] at HPRE; exact HPRE.out))
      go_wp2_with fail
      refine bodyPost_ret (v := .bool true) (by simp [results, Try.results33, go_sem]) rfl ?_
      exact ⟨by rw [HG.out], hbel⟩
theorem all_take {l : List Nw} (h : ∀ j (hj : j < l.length), finB l[j] = true) : allF l = true := by
  unfold allF
  rw [List.all_eq_true]
  intro x hx
  obtain ⟨j, hj, rfl⟩ := List.getElem_of_mem hx
  exact h j hj
set_option maxHeartbeats 4000000 in
theorem dIndex_any (l : List Nw) (a : Option Addr) (c : Nat) (w : World) (hsl : Sl w l a c) :
    Calls Try.prog 60 #[.slice a l.length c, .func (.func 46) #[] #[]] w fun e w' => (∃ z : Int, e = .returned (.int .i64 z) ∧ ((0 ≤ z ∧ allF l = false) ∨ (z = -1 ∧ allF l = true))) ∧ Below w.heap.size w w' := by
  have HSL := Lib.hid hsl
  have hl62 := hsl.len
  clear hsl
  go_enter Try.func60, Try.ntmps60
  go_wp2_with fail
  go_loopw [8] (fun ii wr => ∃ k : Nat, ii = .int .i64 (k : Int) ∧ k ≤ l.length ∧ Below w.heap.size w wr ∧ ∀ j (hj : j < l.length), j < k → finB l[j] = true) (fun ii _ => l.length - (RowKit.intOf ii).toNat)
  case atStart => exact ⟨0, rfl, Nat.zero_le _, Below.refl _ _, fun j hj h => by omega⟩
  case round =>
    obtain ⟨k, rfl, hk, hbel, hpre⟩ := hrel
    have HPRE := Lib.hid hpre
    clear hpre
    by_cases hlt : k < l.length
    · have hlti : (k : Int) < (l.length : Int) := by omega
      have hk0 : (0 : Int) ≤ (k : Int) := by omega
      have hkw : IntKind.i64.wrap ((k : Int) + 1) = (k : Int) + 1 := by rw [IntKind.wrap_i64]; omega
      obtain ⟨b, o, rfl, hb, hat⟩ := HSL.out.rows.at k hlt
      obtain ⟨c0, c1, c2, c3, c4⟩ := (hat k hlt).kept (hbel.block b hb)
      have HB := Lib.hid hbel
      have HG := Lib.hid (fun W => dGone_any l[k] W)
      have HNX : Hid (infP l[k].dist = false → ∀ j (hj : j < l.length), j < k + 1 → finB l[j] = true) := Lib.hid (fun h j hj hjk => by
        by_cases e : j = k
        · subst e; unfold finB; rw [h]; rfl
        · exact HPRE.out j hj (by omega))
      have HBAD : Hid (infP l[k].dist = true → allF l = false) := Lib.hid (fun h => by
        rw [Bool.eq_false_iff]; intro ha
        have := List.all_eq_true.1 ha _ (List.getElem_mem hlt)
        unfold finB at this
        rw [h] at this; cases this)
      clear hat hbel
      generalize l[k] = n at *
      cases hi : infP n.dist with
      | true =>
        have HX := Lib.hid (HBAD.out hi)
        rw [hi] at HG
        clear hi
        go_wp2_with (go_at_call 46; refine (HG.out _).mono ?_; rintro e w' ⟨rfl, rfl⟩)
        refine bodyPost_ret (v := .int .i64 (k : Int)) (by simp [results, Try.results60, go_sem]) rfl ?_
        exact ⟨⟨_, rfl, Or.inl ⟨hk0, HX.out⟩⟩, gNx HB.out (gAl _ _)⟩
      | false =>
        have HX := Lib.hid (HNX.out hi)
        rw [hi] at HG
        clear hi
        go_wp2_with (go_at_call 46; refine (HG.out _).mono ?_; rintro e w' ⟨rfl, rfl⟩)
        exact ⟨⟨k + 1, congrArg (Value.int .i64) (by omega), hlt, gNx HB.out (gAl _ _), HX.out⟩, by show l.length - ((k : Int) + 1).toNat < l.length - (k : Int).toNat; omega⟩
    · have hnk : ¬ (k : Int) < (l.length : Int) := by omega
      have HX : Hid (allF l = true) := Lib.hid (all_take (fun j hj => HPRE.out j hj (by omega)))
      go_wp2_with fail
      refine bodyPost_ret (v := .int .i64 (-1)) (by simp [results, Try.results60, go_sem]) rfl ?_
      exact ⟨⟨_, rfl, Or.inr ⟨rfl, HX.out⟩⟩, hbel⟩
theorem dContains_any (l : List Nw) (a : Option Addr) (c : Nat) (w : World) (hsl : Sl w l a c) :
    Calls Try.prog 45 #[.slice a l.length c, .func (.func 46) #[] #[]] w fun e w' => e = .returned (.bool (!(allF l))) ∧ Below w.heap.size w w' := by
  have HI := Lib.hid (dIndex_any l a c w hsl)
  clear hsl
  generalize allF l = F at *
  generalize l.length = n at *
  go_enter Try.func45, Try.ntmps45
  go_wp2_with (go_at_call 60; refine HI.out.mono ?_; rintro e w' ⟨⟨z, rfl, hz⟩, hb⟩)
  refine bodyPost_ret (v := .bool (decide (0 ≤ z))) (by simp [results, Try.results45, go_sem]) rfl ?_
  refine ⟨?_, hb⟩
  rcases hz with ⟨h1, rfl⟩ | ⟨rfl, rfl⟩
  · simp [h1]
  · rfl
theorem dList_any (l : List Nw) (a : Option Addr) (c : Nat) (w : World) (hsl : Sl w l a c) (hfit : ∀ n ∈ l, n.Fit) :
    Calls Try.prog 30 #[.slice a l.length c] w fun e w' => e = .returned (.bool (listB l)) ∧ Below w.heap.size w w' := by
  have HN := Lib.hid (dNews_any l a c w hsl hfit)
  have HC := Lib.hid (fun V (hV : Below w.heap.size w V) => dContains_any l a c V (hsl.below hV))
  unfold listB
  clear hsl hfit
  generalize allF l = F at *
  generalize l.length = n at *
  cases horder : orderB l with
  | false =>
    rw [horder] at HN
    clear horder
    go_enter Try.func30, Try.ntmps30
    go_wp2_with (go_at_call 33; refine HN.out.mono ?_; rintro e w' ⟨rfl, hb⟩)
    go_ret
    exact ⟨rfl, hb⟩
  | true =>
    rw [horder] at HN
    clear horder
    go_enter Try.func30, Try.ntmps30
    go_wp2_with (first | (go_at_call 33; refine HN.out.mono ?_; rintro e w' ⟨rfl, hb⟩; have HB := Lib.hid hb; clear hb) | (go_at_call 45; refine (HC.out _ HB.out).mono ?_; rintro e w2 ⟨rfl, hb2⟩))
    go_ret
    exact ⟨by simp, gNx HB.out hb2⟩
set_option maxHeartbeats 8000000 in
theorem dEq_any (l m : List Nw) (a a2 : Option Addr) (c c2 : Nat) (w : World) (h1 : Sl w l a c) (h2 : Sl w m a2 c2) :
    Calls Try.prog 58 #[.slice a l.length c, .slice a2 m.length c2, .func (.func 50) #[] #[]] w fun e w' => e = .returned (.bool (decide (l = m))) ∧ Below w.heap.size w w' := by
  have hl62 := h1.len
  have HL := Lib.hid h1
  have HM := Lib.hid h2
  clear h1 h2
  by_cases hlen : l.length = m.length
  · have hne : ((l.length : Int) != (m.length : Int)) = false := by simp [hlen]
    have HLEN := Lib.hid hlen
    go_enter Try.func58, Try.ntmps58
    rw [← hlen]
    rw [← hlen] at hne
    clear hlen
    go_wp2_with fail
    go_loopw [17] (fun ii wr => ∃ k : Nat, ii = .int .i64 (k : Int) ∧ k ≤ l.length ∧ Below w.heap.size w wr ∧ l.take k = m.take k) (fun ii _ => l.length - (RowKit.intOf ii).toNat)
    case atStart => exact ⟨0, rfl, Nat.zero_le _, Below.refl _ _, rfl⟩
    case round =>
      obtain ⟨k, rfl, hk, hbel, hpre⟩ := hrel
      have HPRE := Lib.hid hpre
      clear hpre
      by_cases hlt : k < l.length
      · have hlti : (k : Int) < (l.length : Int) := by omega
        have hk0 : (0 : Int) ≤ (k : Int) := by omega
        have hkw : IntKind.i64.wrap ((k : Int) + 1) = (k : Int) + 1 := by rw [IntKind.wrap_i64]; omega
        have hlt2 : k < m.length := by have := HLEN.out; omega
        obtain ⟨b, o, rfl, hb, hat⟩ := HL.out.rows.at k hlt
        obtain ⟨b2, o2, rfl, hb2, hat2⟩ := HM.out.rows.at k hlt2
        obtain ⟨c0, c1, c2, c3, c4⟩ := (hat k hlt).kept (hbel.block b hb)
        obtain ⟨d0, d1, d2, d3, d4⟩ := (hat2 k hlt2).kept ((hbel.trans ((gAl wr (nwO l[k])).mono hbel.size)).block b2 hb2)
        have HB := Lib.hid hbel
        have HS := Lib.hid (fun W => dSame_any l[k] m[k] W)
        have HNX : Hid (nwE l[k] m[k] = true → l.take (k + 1) = m.take (k + 1)) := Lib.hid (fun h => by
          rw [List.take_succ_eq_append_getElem hlt, List.take_succ_eq_append_getElem hlt2, HPRE.out, nwE_iff.1 h])
        have HBAD : Hid (nwE l[k] m[k] = false → decide (l = m) = false) := Lib.hid (fun h => by
          rw [decide_eq_false_iff_not]
          intro e
          subst e
          rw [nwE_refl] at h; cases h)
        clear hat hat2 hbel
        generalize l[k] = x at *
        generalize m[k] = y at *
        cases hi : nwE x y with
        | false =>
          have HX := Lib.hid (HBAD.out hi)
          rw [hi] at HS
          clear hi
          have hstf := n_store
          go_wp2_with (go_at_call 50; refine (HS.out _).mono ?_; rintro e w' ⟨rfl, hb9⟩)
          refine bodyPost_ret (v := .bool false) (by simp [results, Try.results58, go_sem]) rfl ?_
          exact ⟨by rw [HX.out], gNx (gNx (gNx HB.out (gAl _ _)) (gAl _ _)) hb9⟩
        | true =>
          have HX := Lib.hid (HNX.out hi)
          rw [hi] at HS
          clear hi
          have hstf := n_store
          go_wp2_with (go_at_call 50; refine (HS.out _).mono ?_; rintro e w' ⟨rfl, hb9⟩)
          exact ⟨⟨k + 1, congrArg (Value.int .i64) (by omega), hlt, gNx (gNx (gNx HB.out (gAl _ _)) (gAl _ _)) hb9, HX.out⟩, by show l.length - ((k : Int) + 1).toNat < l.length - (k : Int).toNat; omega⟩
      · have hnk : ¬ (k : Int) < (l.length : Int) := by omega
        have HX : Hid (decide (l = m) = true) := Lib.hid (by
          have h1 := HPRE.out
          have h2 := HLEN.out
          rw [List.take_of_length_le (by omega), List.take_of_length_le (by omega)] at h1
          rw [h1]; simp)
        go_wp2_with fail
        refine bodyPost_ret (v := .bool true) (by simp [results, Try.results58, go_sem]) rfl ?_
        exact ⟨by rw [HX.out], hbel⟩
  · have hne : ((l.length : Int) != (m.length : Int)) = true := by simp; omega
    have HX : Hid (decide (l = m) = false) := Lib.hid (by rw [decide_eq_false_iff_not]; intro e; exact hlen (by rw [e]))
    clear hlen
    generalize l.length = n1 at *
    generalize m.length = n2 at *
    go_enter Try.func58, Try.ntmps58
    go_wp2_with fail
    refine bodyPost_ret (v := .bool false) (by simp [results, Try.results58, go_sem]) rfl ?_
    exact ⟨by rw [HX.out], Below.refl _ _⟩
theorem dSameL_any (l m : List Nw) (a a2 : Option Addr) (c c2 : Nat) (w : World) (h1 : Sl w l a c) (h2 : Sl w m a2 c2) :
    Calls Try.prog 42 #[.slice a l.length c, .slice a2 m.length c2] w fun e w' => e = .returned (.bool (decide (l = m))) ∧ Below w.heap.size w w' := by
  have HE := Lib.hid (dEq_any l m a a2 c c2 w h1 h2)
  clear h1 h2
  generalize decide (l = m) = B at *
  generalize l.length = n1 at *
  generalize m.length = n2 at *
  go_enter Try.func42, Try.ntmps42
  go_wp2_with (go_at_call 58; refine HE.out.mono ?_; rintro e w' ⟨rfl, hb⟩)
  go_ret
  exact ⟨rfl, hb⟩
end Go.Proofs.Ytfnmfmelcghjbaa
