/- Graphs: the document's Place, link. -/
import Derived.Test.YtjlfpjjfldbknaaGreatNgT0
import Derived.Test.YtjlfpjjfldbknaaGreatNqA
namespace Go.Proofs.YtjlfpjjfldbknaaGreat
open Go.RowKit Go.Lib Go.Fq Go.Iq Go.Nq Go.Ow
set_option linter.unusedVariables false
set_option linter.unusedSimpArgs false
set_option maxRecDepth 100000

set_option maxHeartbeats 2000000 in
theorem rPlace_any (l : List Nd) (na : Option Addr) (nc : Nat) (la : Option Addr) (ln lc : Nat) (x : Int) (w : World) (hin : NodesIn w w.heap.size l na) (h : NodesP l) (hn : l.length < 4611686018427387904) :
    Calls Tryz.prog 40 #[.agg #[.slice na l.length nc, .slice la ln lc], .int .i64 x] w fun e w' => e = .returned (.int .i64 (placeV l x)) ∧ Below w.heap.size w w' := by
  obtain ⟨W1, hW1⟩ : ∃ W1, W1 = w.alloc (.cells #[.slice na l.length nc, .slice la ln lc] 25) := ⟨_, rfl⟩
  have hb1 : Below w.heap.size w W1 := by rw [hW1]; exact gAl _ _
  have hs1 : w.heap.size < W1.heap.size := by rw [hW1]; simp
  have k0 : W1.cell? ⟨w.heap.size, 0, none⟩ = some (.slice na l.length nc) := by rw [hW1]; simp [go_sem]
  have k1 : W1.cell? ⟨w.heap.size, 1, none⟩ = some (.slice la ln lc) := by rw [hW1]; simp [go_sem]
  have HKG : Hid (∀ V, Below W1.heap.size W1 V → V.cell? ⟨w.heap.size, 0, none⟩ = some (.slice na l.length nc) ∧ V.cell? ⟨w.heap.size, 1, none⟩ = some (.slice la ln lc)) := Lib.hid (fun V h => ⟨(h.cell (p := ⟨w.heap.size, 0, none⟩) hs1).trans k0, (h.cell (p := ⟨w.heap.size, 1, none⟩) hs1).trans k1⟩)
  have HB1 := Lib.hid hb1
  have HN : Hid (NodesIn W1 W1.heap.size l na) := Lib.hid (hin.kept (fun i hi => hb1.block i hi) hb1.size)
  have HH := Lib.hid (fun (k : Nat) (hk : k < l.length) (e : l[k].id = x) => placeV_hit h hk e)
  have HM := Lib.hid (fun h => placeV_miss (l := l) (x := x) h)
  have HL := Lib.hid hn
  have HS1 := Lib.hid hs1
  obtain ⟨g0, g1⟩ := HKG.out W1 (Below.refl _ _)
  clear hin h hn hb1 hs1 k0 k1 HKG
  go_enter Tryz.func40, Tryz.ntmps40
  go_upto_region 1 with (fail)
  rw [← hW1]
  clear hW1
  go_wp2_with fail
  go_loopw [5] (fun v wr => ∃ k : Nat, v = .int .i64 (k : Int) ∧ k ≤ l.length ∧ wr = W1 ∧ (∀ i (hi : i < l.length), i < k → l[i].id ≠ x)) (fun v _ => l.length - (RowKit.intOf v).toNat)
  case atStart => exact ⟨0, rfl, by omega, rfl, fun i _ hi => by omega⟩
  case round =>
    obtain ⟨k, rfl, hk, rfl, hno⟩ := hrel
    have HNO := Lib.hid hno
    clear hno
    by_cases hlt : k < l.length
    · have hlti : (k : Int) < (l.length : Int) := by omega
      have hk0 : (0 : Int) ≤ (k : Int) := by omega
      have hkw : IntKind.i64.wrap ((k : Int) + 1) = (k : Int) + 1 := by rw [IntKind.wrap_i64]; have := HL.out; omega
      obtain ⟨b, o, rfl, hb, hc⟩ := HN.out.at k hlt
      obtain ⟨c0, c1, c2⟩ := hc k hlt
      have HNX : Hid (l[k].id ≠ x → ∀ i (hi : i < l.length), i < k + 1 → l[i].id ≠ x) := Lib.hid (fun h i hi hik => by by_cases e : i = k; (subst e; exact h); exact HNO.out i hi (by omega))
      have HHK := Lib.hid (HH.out k hlt)
      clear hc HH
      generalize l[k] = nd at *
      by_cases hx : nd.id = x
      · have HV := Lib.hid (HHK.out hx)
        have hxb : (nd.id == x) = true := by simpa using hx
        clear hx HHK HNX
        go_wp2_with fail
        go_ret
        exact ⟨by rw [HV.out]; rfl, HB1.out⟩
      · have hxb : (nd.id == x) = false := by simpa using hx
        have HOK := Lib.hid (HNX.out hx)
        clear hx HHK HNX
        go_wp2_with fail
        refine ⟨⟨k + 1, by simp, by omega, by first | trivial | rfl, HOK.out⟩, ?_⟩
        simp [RowKit.intOf]; omega
    · have hnk : ¬ (k : Int) < (l.length : Int) := by omega
      have HV := Lib.hid (HM.out (fun i hi => HNO.out i hi (by omega)))
      clear hlt HM
      go_wp2_with fail
      go_ret
      exact ⟨by rw [HV.out]; rfl, HB1.out⟩
set_option maxHeartbeats 4000000 in
theorem rLink_any (l : List Lk) (la : Option Addr) (lc : Nat) (na : Option Addr) (nn nc : Nat) (a b : Int) (w : World) (hin : LinksIn w w.heap.size l la) (h : ∀ k (h : k + 1 < l.length), before (l[k]'(by omega)) l[k + 1] = true) (hn : l.length < 4611686018427387904) :
    Calls Tryz.prog 44 #[.agg #[.slice na nn nc, .slice la l.length lc], .int .i64 a, .int .i64 b] w fun e w' => e = .returned (.int .i64 (linkV l a b)) ∧ Below w.heap.size w w' := by
  obtain ⟨W1, hW1⟩ : ∃ W1, W1 = w.alloc (.cells #[.slice na nn nc, .slice la l.length lc] 25) := ⟨_, rfl⟩
  have hb1 : Below w.heap.size w W1 := by rw [hW1]; exact gAl _ _
  have hs1 : w.heap.size < W1.heap.size := by rw [hW1]; simp
  have k0 : W1.cell? ⟨w.heap.size, 0, none⟩ = some (.slice na nn nc) := by rw [hW1]; simp [go_sem]
  have k1 : W1.cell? ⟨w.heap.size, 1, none⟩ = some (.slice la l.length lc) := by rw [hW1]; simp [go_sem]
  have HKG : Hid (∀ V, Below W1.heap.size W1 V → V.cell? ⟨w.heap.size, 0, none⟩ = some (.slice na nn nc) ∧ V.cell? ⟨w.heap.size, 1, none⟩ = some (.slice la l.length lc)) := Lib.hid (fun V h => ⟨(h.cell (p := ⟨w.heap.size, 0, none⟩) hs1).trans k0, (h.cell (p := ⟨w.heap.size, 1, none⟩) hs1).trans k1⟩)
  have HB1 := Lib.hid hb1
  have HN : Hid (LinksIn W1 W1.heap.size l la) := Lib.hid (hin.kept (fun i hi => hb1.block i hi) hb1.size)
  have HH := Lib.hid (fun (k : Nat) (hk : k < l.length) (e : l[k].a = min a b ∧ l[k].b = max a b) => linkV_hit h hk e)
  have HM := Lib.hid (fun h => linkV_miss (l := l) (a := a) (b := b) h)
  have HL := Lib.hid hn
  obtain ⟨g0, g1⟩ := HKG.out W1 (Below.refl _ _)
  clear hin h hn hb1 hs1 k0 k1 HKG
  by_cases hab : b < a
  · have hgt : ¬ a ≤ b := by omega
    have hmn : min a b = b := by omega
    have hmx : max a b = a := by omega
    rw [hmn, hmx] at HH HM
    clear hmn hmx
    go_enter Tryz.func44, Tryz.ntmps44
    go_upto_region 1 with (fail)
    rw [← hW1]
    clear hW1
    go_wp2_with fail
    go_loopw [7] (fun v wr => ∃ k : Nat, v = .int .i64 (k : Int) ∧ k ≤ l.length ∧ wr = W1 ∧ (∀ i (hi : i < l.length), i < k → ¬ (l[i].a = b ∧ l[i].b = a))) (fun v _ => l.length - (RowKit.intOf v).toNat)
    case atStart => exact ⟨0, rfl, by omega, rfl, fun i _ hi => by omega⟩
    case round =>
      obtain ⟨k, rfl, hk, rfl, hno⟩ := hrel
      have HNO := Lib.hid hno
      clear hno
      by_cases hlt : k < l.length
      · have hlti : (k : Int) < (l.length : Int) := by omega
        have hk0 : (0 : Int) ≤ (k : Int) := by omega
        have hkw : IntKind.i64.wrap ((k : Int) + 1) = (k : Int) + 1 := by rw [IntKind.wrap_i64]; have := HL.out; omega
        obtain ⟨bk, o, rfl, hb, hc⟩ := HN.out.at k hlt
        obtain ⟨c0, c1, c2, c3⟩ := hc k hlt
        have HNX : Hid (¬ (l[k].a = b ∧ l[k].b = a) → ∀ i (hi : i < l.length), i < k + 1 → ¬ (l[i].a = b ∧ l[i].b = a)) := Lib.hid (fun h i hi hik => by by_cases e : i = k; (subst e; exact h); exact HNO.out i hi (by omega))
        have HHK := Lib.hid (HH.out k hlt)
        clear hc HH
        generalize l[k] = y at *
        by_cases hx : y.a = b
        · have hxb : (y.a == b) = true := by simpa using hx
          by_cases hy : y.b = a
          · have HV := Lib.hid (HHK.out ⟨hx, hy⟩)
            have hyb : (y.b == a) = true := by simpa using hy
            clear hx hy HHK HNX
            go_wp2_with fail
            go_ret
            exact ⟨by rw [HV.out]; rfl, HB1.out⟩
          · have hyb : (y.b == a) = false := by simpa using hy
            have HOK := Lib.hid (HNX.out (fun h => hy h.2))
            clear hx hy HHK HNX
            go_wp2_with fail
            refine ⟨⟨k + 1, by simp, by omega, by first | trivial | rfl, HOK.out⟩, ?_⟩
            simp [RowKit.intOf]; omega
        · have hxb : (y.a == b) = false := by simpa using hx
          have HOK := Lib.hid (HNX.out (fun h => hx h.1))
          clear hx HHK HNX
          go_wp2_with fail
          refine ⟨⟨k + 1, by simp, by omega, by first | trivial | rfl, HOK.out⟩, ?_⟩
          simp [RowKit.intOf]; omega
      · have hnk : ¬ (k : Int) < (l.length : Int) := by omega
        have HV := Lib.hid (HM.out (fun i hi => HNO.out i hi (by omega)))
        clear hlt HM
        go_wp2_with fail
        go_ret
        exact ⟨by rw [HV.out]; rfl, HB1.out⟩
  · have hle : a ≤ b := by omega
    have hmn : min a b = a := by omega
    have hmx : max a b = b := by omega
    rw [hmn, hmx] at HH HM
    clear hmn hmx
    go_enter Tryz.func44, Tryz.ntmps44
    go_upto_region 1 with (fail)
    rw [← hW1]
    clear hW1
    go_wp2_with fail
    go_loopw [7] (fun v wr => ∃ k : Nat, v = .int .i64 (k : Int) ∧ k ≤ l.length ∧ wr = W1 ∧ (∀ i (hi : i < l.length), i < k → ¬ (l[i].a = a ∧ l[i].b = b))) (fun v _ => l.length - (RowKit.intOf v).toNat)
    case atStart => exact ⟨0, rfl, by omega, rfl, fun i _ hi => by omega⟩
    case round =>
      obtain ⟨k, rfl, hk, rfl, hno⟩ := hrel
      have HNO := Lib.hid hno
      clear hno
      by_cases hlt : k < l.length
      · have hlti : (k : Int) < (l.length : Int) := by omega
        have hk0 : (0 : Int) ≤ (k : Int) := by omega
        have hkw : IntKind.i64.wrap ((k : Int) + 1) = (k : Int) + 1 := by rw [IntKind.wrap_i64]; have := HL.out; omega
        obtain ⟨bk, o, rfl, hb, hc⟩ := HN.out.at k hlt
        obtain ⟨c0, c1, c2, c3⟩ := hc k hlt
        have HNX : Hid (¬ (l[k].a = a ∧ l[k].b = b) → ∀ i (hi : i < l.length), i < k + 1 → ¬ (l[i].a = a ∧ l[i].b = b)) := Lib.hid (fun h i hi hik => by by_cases e : i = k; (subst e; exact h); exact HNO.out i hi (by omega))
        have HHK := Lib.hid (HH.out k hlt)
        clear hc HH
        generalize l[k] = y at *
        by_cases hx : y.a = a
        · have hxb : (y.a == a) = true := by simpa using hx
          by_cases hy : y.b = b
          · have HV := Lib.hid (HHK.out ⟨hx, hy⟩)
            have hyb : (y.b == b) = true := by simpa using hy
            clear hx hy HHK HNX
            go_wp2_with fail
            go_ret
            exact ⟨by rw [HV.out]; rfl, HB1.out⟩
          · have hyb : (y.b == b) = false := by simpa using hy
            have HOK := Lib.hid (HNX.out (fun h => hy h.2))
            clear hx hy HHK HNX
            go_wp2_with fail
            refine ⟨⟨k + 1, by simp, by omega, by first | trivial | rfl, HOK.out⟩, ?_⟩
            simp [RowKit.intOf]; omega
        · have hxb : (y.a == a) = false := by simpa using hx
          have HOK := Lib.hid (HNX.out (fun h => hx h.1))
          clear hx HHK HNX
          go_wp2_with fail
          refine ⟨⟨k + 1, by simp, by omega, by first | trivial | rfl, HOK.out⟩, ?_⟩
          simp [RowKit.intOf]; omega
      · have hnk : ¬ (k : Int) < (l.length : Int) := by omega
        have HV := Lib.hid (HM.out (fun i hi => HNO.out i hi (by omega)))
        clear hlt HM
        go_wp2_with fail
        go_ret
        exact ⟨by rw [HV.out]; rfl, HB1.out⟩
end Go.Proofs.YtjlfpjjfldbknaaGreat
