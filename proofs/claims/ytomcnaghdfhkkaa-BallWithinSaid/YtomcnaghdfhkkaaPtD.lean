/- Paths: where a router stands. -/
import Derived.Test.YtomcnaghdfhkkaaNgA
import Derived.Test.YtomcnaghdfhkkaaPtC
namespace Go.Proofs.Ytomcnaghdfhkkaa
open Go.RowKit Go.Lib Go.Nq
set_option linter.unusedVariables false
set_option linter.unusedSimpArgs false
set_option maxRecDepth 100000

theorem pFind1_any (n : Nd) (x : Int) (w : World) : Calls Try.prog 61 #[.agg #[.int .i64 n.id, .bool n.up, .bool n.mark], .int .i64 x] w fun e w' => e = .returned (.int .i64 (cmpI n.id x)) ∧ Below w.heap.size w w' := by
  go_enter Try.func61, Try.ntmps61
  go_wp2_with (go_at_call 62; refine (gCmp_any _ _ _).mono ?_; rintro e w' ⟨rfl, rfl⟩)
  go_ret
  exact ⟨rfl, gAl _ _⟩
set_option maxHeartbeats 4000000 in
theorem pSearch_any (l : List Nd) (a : Option Addr) (c : Nat) (x : Int) (w : World) (hin : NodesIn w w.heap.size l a) (h : NodesP l) (hn : l.length < 4611686018427387904) :
    Calls Try.prog 60 #[.slice a l.length c, .int .i64 x, .func (.func 61) #[] #[]] w fun e w' => e = .returned (.tuple #[.int .i64 (Nq.ahead l x : Int), .bool (has l x)]) ∧ Below w.heap.size w w' := by
  have HF := Lib.hid hin
  have HS := Lib.hid (ahead_spec h x)
  have HA := Lib.hid (has_at h x)
  have HN := Lib.hid hn
  clear hin h
  go_enter Try.func60, Try.ntmps60
  go_wp2_with fail
  go_loopw [9, 10] (fun u v wr => ∃ i j : Nat, u = .int .i64 (i : Int) ∧ v = .int .i64 (j : Int) ∧ i ≤ j ∧ j ≤ l.length ∧ Below w.heap.size w wr ∧ i ≤ Nq.ahead l x ∧ Nq.ahead l x ≤ j) (fun u v _ => (RowKit.intOf v).toNat - (RowKit.intOf u).toNat)
  case atStart => exact ⟨0, l.length, rfl, rfl, Nat.zero_le _, Nat.le_refl _, Below.refl _ _, Nat.zero_le _, HS.out.1⟩
  case round =>
    obtain ⟨i, j, rfl, rfl, hij, hjn, hbel, hia, haj⟩ := hrel
    have HB := Lib.hid hbel
    by_cases hlt : i < j
    · have hlti : (i : Int) < (j : Int) := by omega
      obtain ⟨m, hmid⟩ : ∃ m, (i + j) / 2 = m := ⟨_, rfl⟩
      have hm : m < l.length := by omega
      obtain ⟨b, o, rfl, hb, hc⟩ := (HF.out.kept (fun k hk => hbel.block k hk) hbel.size).at m hm
      have HIN := Lib.hid (HS.out.2 m hm)
      obtain ⟨c0, c1, c2⟩ := hc m hm
      have HC := Lib.hid (fun W => pFind1_any l[m] x W)
      clear hc hbel
      generalize l[m] = nd at *
      have hn1 := HN.out
      have e1 : IntKind.i64.wrap ((i : Int) + (j : Int)) = (i : Int) + (j : Int) := by rw [IntKind.wrap_i64]; omega
      have e2 : IntKind.u64.wrap ((i : Int) + (j : Int)) = (i : Int) + (j : Int) := by rw [IntKind.wrap_u64]; omega
      have e3 : ((i : Int) + (j : Int)) / 2 = (m : Int) := by omega
      have hmi : (m : Int) < (l.length : Int) := by omega
      have hm0 : (0 : Int) ≤ (m : Int) := by omega
      have e4 : IntKind.i64.wrap ((m : Int) + 1) = (m : Int) + 1 := by rw [IntKind.wrap_i64]; omega
      go_upto_region 5 with (fail)
      try rw [e3]
      by_cases hx : nd.id < x
      · have hneg : cmpI nd.id x < 0 := cmp_neg.2 hx
        have HLT := Lib.hid (HIN.out.2 hx)
        go_wp2_with (go_at_call 61; refine (HC.out _).mono ?_; rintro e w' ⟨rfl, hb2⟩; have HB2 := Lib.hid (gNx HB.out hb2); clear hb2)
        refine ⟨⟨m + 1, j, by simp, rfl, by omega, hjn, HB2.out, by have := HLT.out; omega, haj⟩, ?_⟩
        simp [RowKit.intOf]; omega
      · have hneg : ¬ cmpI nd.id x < 0 := fun hh => hx (cmp_neg.1 hh)
        have HGE : Hid (Nq.ahead l x ≤ m) := Lib.hid (by have h1 := HIN.out; by_cases hq : m < Nq.ahead l x; exact absurd (h1.1 hq) hx; omega)
        go_wp2_with (go_at_call 61; refine (HC.out _).mono ?_; rintro e w' ⟨rfl, hb2⟩; have HB2 := Lib.hid (gNx HB.out hb2); clear hb2)
        refine ⟨⟨i, m, rfl, by simp, by omega, by omega, HB2.out, hia, HGE.out⟩, ?_⟩
        simp [RowKit.intOf]; omega
    · have hji : ¬ (i : Int) < (j : Int) := by omega
      have hi : i = Nq.ahead l x := by omega
      by_cases hk : i < l.length
      · have hki : (i : Int) < (l.length : Int) := by omega
        have hk0 : (0 : Int) ≤ (i : Int) := by omega
        obtain ⟨b, o, rfl, hb, hc⟩ := (HF.out.kept (fun k hk => hbel.block k hk) hbel.size).at i hk
        obtain ⟨c0, c1, c2⟩ := hc i hk
        have HC := Lib.hid (fun W => pFind1_any l[i] x W)
        have HR : Hid (has l x = decide (cmpI l[i].id x = 0)) := Lib.hid (by
          have h1 := HA.out
          by_cases hq : l[i].id = x
          · rw [h1.2 ⟨by omega, by simpa only [← hi] using hq⟩]
            simp [cmp_zero.2 hq]
          · have h2 : has l x = false := by
              cases hh : has l x with
              | false => rfl
              | true =>
                obtain ⟨_, h3⟩ := h1.1 hh
                exact absurd (by simpa only [← hi] using h3) hq
            rw [h2]
            symm; simp; exact fun e => hq (cmp_zero.1 e))
        clear hc hbel
        have hv := HR.out
        generalize l[i] = nd at *
        generalize cmpI nd.id x = v at *
        have HI := Lib.hid hi
        clear hi
        by_cases h0 : v = 0
        · subst h0
          go_wp2_with (go_at_call 61; refine (HC.out _).mono ?_; rintro e w' ⟨rfl, hb2⟩; have HB2 := Lib.hid (gNx HB.out hb2); clear hb2)
          refine bodyPost_ret (v := .tuple #[.int .i64 (i : Int), .bool true]) (by simp [results, Try.results60, go_sem]) rfl ?_
          exact ⟨by rw [HR.out, HI.out]; simp, HB2.out⟩
        · have hb0 : (v == 0) = false := by simp [h0]
          go_wp2_with (go_at_call 61; refine (HC.out _).mono ?_; rintro e w' ⟨rfl, hb2⟩; have HB2 := Lib.hid (gNx HB.out hb2); clear hb2)
          refine bodyPost_ret (v := .tuple #[.int .i64 (i : Int), .bool false]) (by simp [results, Try.results60, go_sem]) rfl ?_
          exact ⟨by rw [HR.out, HI.out]; simp [h0], HB2.out⟩
      · have hki : ¬ (i : Int) < (l.length : Int) := by omega
        have HR : Hid (has l x = false) := Lib.hid (by
          cases hh : has l x with
          | false => rfl
          | true => obtain ⟨h2, _⟩ := HA.out.1 hh; omega)
        have HI := Lib.hid hi
        clear hi hbel
        go_wp2_with fail
        refine bodyPost_ret (v := .tuple #[.int .i64 (i : Int), .bool false]) (by simp [results, Try.results60, go_sem]) rfl ?_
        exact ⟨by rw [HR.out, HI.out], HB.out⟩
set_option maxHeartbeats 4000000 in
theorem pPlace_any (l : List Nd) (a : Option Addr) (c : Nat) (rv : Value) (x : Int) (w : World) (hin : NodesIn w w.heap.size l a) (h : NodesP l) (hn : l.length < 4611686018427387904) (h1 : rv.oneCell' = true) :
    Calls Try.prog 36 #[.agg #[.slice a l.length c, rv], .int .i64 x] w fun e w' => e = .returned (.tuple #[.int .i64 (Nq.ahead l x : Int), .bool (has l x)]) ∧ Below w.heap.size w w' := by
  obtain ⟨W1, hW1⟩ : ∃ W1, W1 = w.alloc (.cells #[.slice a l.length c, rv] 63) := ⟨_, rfl⟩
  have b1 : Below w.heap.size w W1 := by rw [hW1]; exact gAl _ _
  have r1 : W1.heap[w.heap.size]? = some (.cells #[.slice a l.length c, rv] 63 (0, 0)) := by rw [hW1]; exact heap_alloc_new w _
  have c0 : W1.cell? ⟨w.heap.size, 0, none⟩ = some (.slice a l.length c) := by rw [cell_of_row W1 _ 0 _ _ (0, 0) r1]; rfl
  have HC := Lib.hid (pSearch_any l a c x W1 (hin.kept (fun i hi => b1.block i hi) b1.size) h hn)
  have HB1 := Lib.hid b1
  clear hin h hn b1 r1
  go_enter Try.func36, Try.ntmps36
  go_upto_region 1 with (fail)
  rw [← hW1]
  clear hW1
  go_wp2_with (go_at_call 60; refine HC.out.mono ?_; rintro e w' ⟨rfl, hb2⟩; have HB2 := Lib.hid (gNx HB1.out hb2); clear hb2)
  refine bodyPost_ret (v := .tuple #[.int .i64 (Nq.ahead l x : Int), .bool (has l x)]) (by simp [results, Try.results36, go_sem]) rfl ?_
  exact ⟨rfl, HB2.out⟩
end Go.Proofs.Ytomcnaghdfhkkaa
