/- Paths: the document's place and asked. -/
import Derived.Test.YtomcnaghdfhkkaaPtL
import Derived.Test.YtomcnaghdfhkkaaNqA
namespace Go.Proofs.Ytomcnaghdfhkkaa
open Go.RowKit Go.Lib Go.Fq Go.Pq Go.Iq Go.Nq Go.Ow
set_option linter.unusedVariables false
set_option linter.unusedSimpArgs false
set_option maxRecDepth 100000

set_option maxHeartbeats 2000000 in
theorem sPlace_any (l : List Nd) (na : Option Addr) (nc : Nat) (la : Option Addr) (ln lc : Nat) (x : Int) (w : World) (hin : NodesIn w w.heap.size l na) (h : NodesP l) (hn : l.length < 4611686018427387904) :
    Calls Try.prog 30 #[.agg #[.slice na l.length nc, .slice la ln lc], .int .i64 x] w fun e w' => e = .returned (.int .i64 (placeV l x)) ∧ Below w.heap.size w w' := by
  obtain ⟨W1, hW1⟩ : ∃ W1, W1 = w.alloc (.cells #[.slice na l.length nc, .slice la ln lc] 25) := ⟨_, rfl⟩
  have hb1 : Below w.heap.size w W1 := by rw [hW1]; exact gAl _ _
  have hs1 : w.heap.size < W1.heap.size := by rw [hW1]; simp
  have k0 : W1.cell? ⟨w.heap.size, 0, none⟩ = some (.slice na l.length nc) := by rw [hW1]; simp [go_sem]
  have k1 : W1.cell? ⟨w.heap.size, 1, none⟩ = some (.slice la ln lc) := by rw [hW1]; simp [go_sem]
  have HKG : Hid (∀ V, Below W1.heap.size W1 V → V.cell? ⟨w.heap.size, 0, none⟩ = some (.slice na l.length nc) ∧ V.cell? ⟨w.heap.size, 1, none⟩ = some (.slice la ln lc)) := Lib.hid (fun V h => ⟨(h.cell (p := ⟨w.heap.size, 0, none⟩) hs1).trans k0, (h.cell (p := ⟨w.heap.size, 1, none⟩) hs1).trans k1⟩)
  have HB1 := Lib.hid hb1
  have HN : Hid (NodesIn W1 W1.heap.size l na) := Lib.hid (hin.kept (fun i hi => hb1.block i hi) hb1.size)
  have HH := Lib.hid (fun (k : Nat) (hk : k < l.length) (e : l[k].id = x) => placeV_hit h hk e)
  have HM := Lib.hid (fun h => placeV_miss (l := l) (x := x) h)
  have HL := Lib.hid hn
  have HS1 := Lib.hid hs1
  obtain ⟨g0, g1⟩ := HKG.out W1 (Below.refl _ _)
  clear hin h hn hb1 hs1 k0 k1 HKG
  go_enter Try.func30, Try.ntmps30
  go_upto_region 1 with (fail)
  rw [← hW1]
  clear hW1
  go_wp2_with fail
  go_loopw [5] (fun v wr => ∃ k : Nat, v = .int .i64 (k : Int) ∧ k ≤ l.length ∧ wr = W1 ∧ (∀ i (hi : i < l.length), i < k → l[i].id ≠ x)) (fun v _ => l.length - (RowKit.intOf v).toNat)
  case atStart => exact ⟨0, rfl, by omega, rfl, fun i _ hi => by omega⟩
  case round =>
    obtain ⟨k, rfl, hk, rfl, hno⟩ := hrel
    have HNO := Lib.hid hno
    clear hno
    by_cases hlt : k < l.length
    · have hlti : (k : Int) < (l.length : Int) := by omega
      have hk0 : (0 : Int) ≤ (k : Int) := by omega
      have hkw : IntKind.i64.wrap ((k : Int) + 1) = (k : Int) + 1 := by rw [IntKind.wrap_i64]; have := HL.out; omega
      obtain ⟨b, o, rfl, hb, hc⟩ := HN.out.at k hlt
      obtain ⟨c0, c1, c2⟩ := hc k hlt
      have HNX : Hid (l[k].id ≠ x → ∀ i (hi : i < l.length), i < k + 1 → l[i].id ≠ x) := Lib.hid (fun h i hi hik => by by_cases e : i = k; (subst e; exact h); exact HNO.out i hi (by omega))
      have HHK := Lib.hid (HH.out k hlt)
      clear hc HH
      generalize l[k] = nd at *
      by_cases hx : nd.id = x
      · have HV := Lib.hid (HHK.out hx)
        have hxb : (nd.id == x) = true := by simpa using hx
        clear hx HHK HNX
        go_wp2_with fail
        go_ret
        exact ⟨by rw [HV.out]; rfl, HB1.out⟩
      · have hxb : (nd.id == x) = false := by simpa using hx
        have HOK := Lib.hid (HNX.out hx)
        clear hx HHK HNX
        go_wp2_with fail
        refine ⟨⟨k + 1, by simp, by omega, by first | trivial | rfl, HOK.out⟩, ?_⟩
        simp [RowKit.intOf]; omega
    · have hnk : ¬ (k : Int) < (l.length : Int) := by omega
      have HV := Lib.hid (HM.out (fun i hi => HNO.out i hi (by omega)))
      clear hlt HM
      go_wp2_with fail
      go_ret
      exact ⟨by rw [HV.out]; rfl, HB1.out⟩
set_option maxHeartbeats 8000000 in
theorem asked_any (G : Gr) (na : Option Addr) (nc : Nat) (la : Option Addr) (lc : Nat) (max : Nat) (fr : Int) (w : World) (hin : GrIn w G na la) (hm : max < 2 ^ 64) :
    Calls Try.prog 47 #[.agg #[.slice na G.nodes.length nc, .slice la G.links.length lc], .float .f64 max, .int .i64 fr] w fun e w' => e = .returned (.int .i64 (askE G max [fr])) ∧ Below w.heap.size w w' := by
  obtain ⟨W1, hW1⟩ : ∃ W1, W1 = w.alloc (.cells #[.slice na G.nodes.length nc, .slice la G.links.length lc] 25) := ⟨_, rfl⟩
  have b1 : Below w.heap.size w W1 := by rw [hW1]; exact gAl _ _
  have s1 : w.heap.size < W1.heap.size := by rw [hW1]; simp
  have r1 : W1.heap[w.heap.size]? = some (.cells #[.slice na G.nodes.length nc, .slice la G.links.length lc] 25 (0, 0)) := by rw [hW1]; exact heap_alloc_new w _
  have HKG : Hid (∀ V, Below W1.heap.size W1 V → V.cell? ⟨w.heap.size, 0, none⟩ = some (.slice na G.nodes.length nc) ∧ V.cell? ⟨w.heap.size, 1, none⟩ = some (.slice la G.links.length lc)) := Lib.hid (fun V hV => by
    have := two_cells ((hV.block _ s1).trans r1)
    exact ⟨this.1, this.2.1⟩)
  have HG : Hid (∀ V, Below W1.heap.size W1 V → GrIn V G na la) := Lib.hid (fun V hV => (hin.below b1).below hV)
  have HB1 := Lib.hid b1
  have HLM := Lib.hid (reflimit_any max W1 hm)
  obtain ⟨g0, g1⟩ := HKG.out W1 (Below.refl _ _)
  have HWT := Lib.hid hin.wts
  have HSZ : Hid (G.nodes.length * 16 ≤ 140737488351232 ∧ G.links.length * 32 ≤ 140737488351232) := Lib.hid ⟨hin.n1, hin.l1⟩
  clear hin b1 s1 r1 hm
  by_cases hlz : limitF max = 0
  case neg =>
    have HE := Lib.hid (askE_limit (G := G) (ids := [fr]) hlz)
    have hlz2 : (limitF max != 0) = true := by simpa using hlz
    clear hlz
    generalize limitF max = le at *
    go_enter Try.func47, Try.ntmps47
    go_upto_region 1 with (fail)
    rw [← hW1]
    clear hW1
    go_wp2_with (go_at_call 32; refine HLM.out.mono ?_; rintro e w' ⟨rfl, rfl⟩)
    go_ret
    exact ⟨by rw [HE.out]; rfl, HB1.out⟩
  case pos =>
    rw [hlz] at HLM
    have HLZ := Lib.hid hlz
    clear hlz
    have HCK := Lib.hid (rCheck_any G na la nc lc W1 (HG.out W1 (Below.refl _ _)).nodes (HG.out W1 (Below.refl _ _)).links HWT.out (by have := HSZ.out; omega) (by have := HSZ.out; omega))
    by_cases hz : checkG G = 0
    case neg =>
      have HE := Lib.hid (askE_check (ids := [fr]) HLZ.out hz)
      have hz2 : (checkG G == 0) = false := by simpa using hz
      clear hz
      generalize checkG G = ce at *
      go_enter Try.func47, Try.ntmps47
      go_upto_region 1 with (fail)
      rw [← hW1]
      clear hW1
      go_wp2_with (go_at_call 32; refine HLM.out.mono ?_; rintro e w' ⟨rfl, rfl⟩)
      refine HCK.out.mono ?_
      rintro e w2 ⟨rfl, hb2⟩
      have HB2 := Lib.hid (gNx HB1.out hb2)
      clear hb2
      go_wp2_with fail
      go_ret
      exact ⟨by rw [HE.out]; rfl, HB2.out⟩
    case pos =>
      have HZ := Lib.hid hz
      rw [hz] at HCK
      have HPL := Lib.hid (fun (V : World) (hV : Below W1.heap.size W1 V) => sPlace_any G.nodes na nc la G.links.length lc fr V (HG.out V hV).nodes (check_zero.1 hz).2.2.1 (by have := (check_zero.1 hz).1; omega))
      have HNG := Lib.hid (placeV_neg G.nodes fr)
      generalize placeV G.nodes fr = pv at *
      clear hz
      go_enter Try.func47, Try.ntmps47
      go_upto_region 1 with (fail)
      rw [← hW1]
      clear hW1
      go_wp2_with (go_at_call 32; refine HLM.out.mono ?_; rintro e w' ⟨rfl, rfl⟩)
      refine HCK.out.mono ?_
      rintro e w2 ⟨rfl, hb2⟩
      have HB2 := Lib.hid hb2
      clear hb2 g0 g1
      obtain ⟨g0, g1⟩ := HKG.out w2 HB2.out
      go_wp2_with fail
      refine (HPL.out w2 HB2.out).mono ?_
      rintro e w3 ⟨rfl, hb3⟩
      have HB3 := Lib.hid (gNx HB1.out (gNx HB2.out hb3))
      clear hb3 g0 g1
      cases hh : has G.nodes fr with
      | false =>
        have hp : pv < 0 := HNG.out.1.2 hh
        have HE := Lib.hid (askE_none (ids := [fr]) HLZ.out HZ.out (by simpa using hh))
        clear hh
        go_wp2_with fail
        go_ret
        exact ⟨by rw [HE.out]; rfl, HB3.out⟩
      | true =>
        have hp : ¬ pv < 0 := by have := HNG.out.2.2 hh; omega
        have HE := Lib.hid (askE_ok (ids := [fr]) HLZ.out HZ.out (by simpa using hh))
        clear hh
        go_wp2_with fail
        go_ret
        exact ⟨by rw [HE.out]; rfl, HB3.out⟩
end Go.Proofs.Ytomcnaghdfhkkaa
