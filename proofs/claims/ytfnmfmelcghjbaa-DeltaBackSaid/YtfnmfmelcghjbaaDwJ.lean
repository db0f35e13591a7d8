/- Deltas, the laws: news as an argument; back. -/
import Derived.Test.YtfnmfmelcghjbaaDwI
namespace Go.Proofs.Ytfnmfmelcghjbaa
open Go.RowKit Go.Lib Go.Wq Go.Ow Go.Cw Go.Fq Go.Mq Go.Kq Go.Kw Go.Dq
set_option linter.unusedVariables false
set_option linter.unusedSimpArgs false
set_option maxRecDepth 100000

/-- News as an argument. -/
structure NewsD (w : World) (l : List Nw) (a : Option Addr) (c : Nat) : Prop where
  sl : Sl w l a c
  fit : ∀ y ∈ l, y.Fit
theorem gin_newsd {H : Type} {enc : TypeId × Value → H} {w : World} {spare : Nat → Bool} {held : Bool} {n : Nat} {a : Option Addr} {k c : Nat} {x : DataW H × List MemPlace} (h : DataW.trod enc Try.prog w 0 spare held n 22 [.slice a k c] = some x) (hw : ∀ z ∈ x.1.weights Try.prog 22, z ≤ reachBytes) :
    ∃ l : List Nw, k = l.length ∧ NewsD w l a c := by
  have hR : reachBytes = 140737488351232 := rfl
  obtain ⟨l, rfl, hin, hfit, hlen⟩ := in_newses h hw
  refine ⟨l, rfl, ⟨hin, ?_, by omega⟩, hfit⟩
  rcases DataW.trod_slice Try.underlying22 h with ⟨h1, -⟩ | ⟨x0, len, cap, elems, rest, m, -, h1, -, -, hlc, hcm, -⟩
  · simp only [List.cons.injEq, Value.slice.injEq, and_true] at h1
    omega
  · simp only [List.cons.injEq, Value.slice.injEq, and_true] at h1
    obtain ⟨-, h2, h3⟩ := h1
    unfold maxLen at hcm
    omega
theorem mrg_le {l ns : List Nw} (h : OkN l) (ho : orderB ns = true) (hf : ∀ x ∈ ns, x.Fit) : (mrg l ns).length ≤ 4294967294 := rise_len (okN_mrg h ho hf).rise (okN_mrg h ho hf).news
set_option maxHeartbeats 16000000 in
theorem law_dback (la : List Nw) (aa : Option Addr) (ca : Nat) (lb : List Nw) (ab : Option Addr) (cb : Nat) (ln : List Nw) (an : Option Addr) (cn : Nat) (w : World) (hA : NewsD w la aa ca) (hB : NewsD w lb ab cb) (hN : NewsD w ln an cn) :
    Calls Try.prog 6 #[.slice aa la.length ca, .slice ab lb.length cb, .slice an ln.length cn] w fun e w' => e = .returned (.bool true) ∧ Below w.heap.size w w' := by
  have HB := Lib.hid (Below.refl w.heap.size w)
  have HFIT := Lib.hid (And.intro hA.fit (And.intro hB.fit hN.fit))
  have HFa := Lib.hid hA.fit
  have HFb := Lib.hid hB.fit
  have HFn := Lib.hid hN.fit
  have HBS := Lib.hid hB.sl
  have HASa := Lib.hid hA.sl
  have HASb := Lib.hid hB.sl
  have HASn := Lib.hid hN.sl
  clear hA hB hN
  go_enter Try.func6, Try.ntmps6
  cases hab : (listB la && listB lb) with
  | false =>
    have HDE : Hid (diffE la lb = ([], 1)) := Lib.hid (by unfold diffE; rw [hab]; rfl)
    cases hla : listB la with
    | false =>
      have HLa := Lib.hid hla
      clear hab hla
      go_upto_region 3 with (first | (have hx1 := X1; clear hx1; go_at_call 10; refine (own_any lb ab cb _ (HASb.out.below HB.out)).mono ?_; rintro e V ⟨hb, aX2, cX2, rfl, hs⟩; replace X1 := Lib.hid (X1.out.below hb); replace HB := Lib.hid (gNx HB.out hb); have X2 := Lib.hid hs; clear hb hs) | (go_at_call 10; refine (own_any la aa ca _ (HASa.out.below HB.out)).mono ?_; rintro e V ⟨hb, aX1, cX1, rfl, hs⟩;  replace HB := Lib.hid (gNx HB.out hb); have X1 := Lib.hid hs; clear hb hs) | (go_at_call 9; have hq := dDiffE_any la lb _ _ _ _ _ X1.out X2.out HFIT.out.1 HFIT.out.2.1; rw [HDE.out] at hq; refine hq.mono ?_; clear hq; rintro e V ⟨hb, aD, cD, rfl, hs⟩;  replace HB := Lib.hid (gNx HB.out hb); have D := Lib.hid hs; clear hb hs))
      clear X1 X2
      go_wp2_with (first | (go_at_call 29; have hq := rList_any la aa ca _ (HASa.out.below HB.out) (HFa.out); rw [HLa.out] at hq; refine hq.mono ?_; clear hq; rintro e V ⟨rfl, hb⟩; replace D := Lib.hid (D.out.below hb); replace HB := Lib.hid (gNx HB.out hb); have HL1 := trivial; clear hb) | (go_at_call 15; refine (dAwake14_any _).mono ?_; rintro e V ⟨rfl, hb⟩; replace HB := Lib.hid (gNx HB.out hb); clear hb))
      refine bodyPost_ret (v := .bool true) (by simp [results, Try.results6, go_sem]) rfl ?_
      exact ⟨rfl, HB.out⟩
    | true =>
      have hlb : listB lb = false := by rw [hla] at hab; simpa using hab
      have HLa := Lib.hid hla
      have HLb := Lib.hid hlb
      clear hab hla hlb
      go_upto_region 3 with (first | (have hx1 := X1; clear hx1; go_at_call 10; refine (own_any lb ab cb _ (HASb.out.below HB.out)).mono ?_; rintro e V ⟨hb, aX2, cX2, rfl, hs⟩; replace X1 := Lib.hid (X1.out.below hb); replace HB := Lib.hid (gNx HB.out hb); have X2 := Lib.hid hs; clear hb hs) | (go_at_call 10; refine (own_any la aa ca _ (HASa.out.below HB.out)).mono ?_; rintro e V ⟨hb, aX1, cX1, rfl, hs⟩;  replace HB := Lib.hid (gNx HB.out hb); have X1 := Lib.hid hs; clear hb hs) | (go_at_call 9; have hq := dDiffE_any la lb _ _ _ _ _ X1.out X2.out HFIT.out.1 HFIT.out.2.1; rw [HDE.out] at hq; refine hq.mono ?_; clear hq; rintro e V ⟨hb, aD, cD, rfl, hs⟩;  replace HB := Lib.hid (gNx HB.out hb); have D := Lib.hid hs; clear hb hs))
      clear X1 X2
      go_wp2_with (first | (have hl1 := HL1; clear hl1; go_at_call 29; have hq := rList_any lb ab cb _ (HASb.out.below HB.out) (HFb.out); rw [HLb.out] at hq; refine hq.mono ?_; clear hq; rintro e V ⟨rfl, hb⟩; replace D := Lib.hid (D.out.below hb); replace HB := Lib.hid (gNx HB.out hb); clear hb) | (go_at_call 29; have hq := rList_any la aa ca _ (HASa.out.below HB.out) (HFa.out); rw [HLa.out] at hq; refine hq.mono ?_; clear hq; rintro e V ⟨rfl, hb⟩; replace D := Lib.hid (D.out.below hb); replace HB := Lib.hid (gNx HB.out hb); have HL1 := trivial; clear hb) | (go_at_call 15; refine (dAwake14_any _).mono ?_; rintro e V ⟨rfl, hb⟩; replace HB := Lib.hid (gNx HB.out hb); clear hb))
      refine bodyPost_ret (v := .bool true) (by simp [results, Try.results6, go_sem]) rfl ?_
      exact ⟨rfl, HB.out⟩
  | true =>
    rw [Bool.and_eq_true] at hab
    have okA := list_ok hab.1 HFIT.out.1
    have okB := list_ok hab.2 HFIT.out.2.1
    have HDE : Hid (diffE la lb = (diffL la lb, 0)) := Lib.hid (by unfold diffE; rw [hab.1, hab.2]; rfl)
    have HDF : Hid (∀ x ∈ diffL la lb, x.Fit) := Lib.hid (fun x hx => (diff_news okA okB x hx).2)
    have HME : Hid (mergE la (diffL la lb) = (lb, 0)) := Lib.hid (by unfold mergE; rw [hab.1, diff_order okA okB, diff_back okA okB]; rfl)
    have HDS : Hid (diffE la la = ([], 0)) := Lib.hid (by unfold diffE; rw [hab.1, (diff_nil okA okA).2 rfl]; rfl)
    have HLN : Hid (lb.length < 4611686018427387904) := Lib.hid (by have := rise_len okB.rise okB.news; omega)
    cases hord : orderB ln with
    | false =>
      have HMN : Hid (mergE la ln = ([], 1)) := Lib.hid (by unfold mergE; rw [hab.1, hord]; rfl)
      clear hab okA okB hord
      go_upto_region 4 with (first | (have hx1 := X1; clear hx1; go_at_call 10; refine (own_any lb ab cb _ (HASb.out.below HB.out)).mono ?_; rintro e V ⟨hb, aX2, cX2, rfl, hs⟩; replace X1 := Lib.hid (X1.out.below hb); replace HB := Lib.hid (gNx HB.out hb); have X2 := Lib.hid hs; clear hb hs) | (go_at_call 10; refine (own_any la aa ca _ (HASa.out.below HB.out)).mono ?_; rintro e V ⟨hb, aX1, cX1, rfl, hs⟩;  replace HB := Lib.hid (gNx HB.out hb); have X1 := Lib.hid hs; clear hb hs) | (go_at_call 9; have hq := dDiffE_any la lb _ _ _ _ _ X1.out X2.out HFIT.out.1 HFIT.out.2.1; rw [HDE.out] at hq; refine hq.mono ?_; clear hq; rintro e V ⟨hb, aD, cD, rfl, hs⟩;  replace HB := Lib.hid (gNx HB.out hb); have D := Lib.hid hs; clear hb hs))
      clear X1 X2
      go_upto_region 5 with (first | (go_at_call 10; refine (own_any la aa ca _ (HASa.out.below HB.out)).mono ?_; rintro e V ⟨hb, aX1, cX1, rfl, hs⟩; replace D := Lib.hid (D.out.below hb); replace HB := Lib.hid (gNx HB.out hb); have X1 := Lib.hid hs; clear hb hs) | (go_at_call 12; have hq := dMergeE_any la (diffL la lb) _ _ _ _ _ X1.out D.out HFIT.out.1 HDF.out; rw [HME.out] at hq; refine hq.mono ?_; clear hq; rintro e V ⟨hb, aM, cM, rfl, hs⟩; replace D := Lib.hid (D.out.below hb); replace HB := Lib.hid (gNx HB.out hb); have M := Lib.hid hs; clear hb hs))
      clear X1
      go_upto_region 6 with (first | (have hx1 := X1; clear hx1; go_at_call 10; refine (own_any la aa ca _ (HASa.out.below HB.out)).mono ?_; rintro e V ⟨hb, aX2, cX2, rfl, hs⟩; replace M := Lib.hid (M.out.below hb); replace X1 := Lib.hid (X1.out.below hb); replace HB := Lib.hid (gNx HB.out hb); have X2 := Lib.hid hs; clear hb hs) | (go_at_call 10; refine (own_any la aa ca _ (HASa.out.below HB.out)).mono ?_; rintro e V ⟨hb, aX1, cX1, rfl, hs⟩; replace M := Lib.hid (M.out.below hb); replace HB := Lib.hid (gNx HB.out hb); have X1 := Lib.hid hs; clear hb hs) | (go_at_call 9; have hq := dDiffE_any la la _ _ _ _ _ X1.out X2.out HFIT.out.1 HFIT.out.1; rw [HDS.out] at hq; refine hq.mono ?_; clear hq; rintro e V ⟨hb, aD2, cD2, rfl, hs⟩; replace M := Lib.hid (M.out.below hb); replace HB := Lib.hid (gNx HB.out hb); have D2 := Lib.hid hs; clear hb hs))
      clear X1 X2
      go_upto_region 8 with (go_at_call 14; refine (rSameNews_any lb lb _ _ _ _ _ _ M.out.rows (HBS.out.below HB.out).rows (Nat.le_refl _) HLN.out).mono ?_; rintro e V ⟨⟨r5, rfl, hr5⟩, hb⟩; obtain rfl : r5 = true := hr5.2 (by simp);  replace HB := Lib.hid (gNx HB.out hb); clear hb hr5)
      go_upto_region 9 with (first | (have hx1 := X1; clear hx1; go_at_call 10; refine (own_any ln an cn _ (HASn.out.below HB.out)).mono ?_; rintro e V ⟨hb, aX2, cX2, rfl, hs⟩; replace X1 := Lib.hid (X1.out.below hb); replace HB := Lib.hid (gNx HB.out hb); have X2 := Lib.hid hs; clear hb hs) | (go_at_call 10; refine (own_any la aa ca _ (HASa.out.below HB.out)).mono ?_; rintro e V ⟨hb, aX1, cX1, rfl, hs⟩;  replace HB := Lib.hid (gNx HB.out hb); have X1 := Lib.hid hs; clear hb hs) | (go_at_call 12; have hq := dMergeE_any la ln _ _ _ _ _ X1.out X2.out HFIT.out.1 HFIT.out.2.2; rw [HMN.out] at hq; refine hq.mono ?_; clear hq; rintro e V ⟨hb, aO, cO, rfl, hs⟩;  replace HB := Lib.hid (gNx HB.out hb); have O := Lib.hid hs; clear hb hs))
      clear X1 X2
      go_wp2_with (go_at_call 15; refine (dAwake14_any _).mono ?_; rintro e V ⟨rfl, hb⟩; replace HB := Lib.hid (gNx HB.out hb); clear hb)
      refine bodyPost_ret (v := .bool true) (by simp [results, Try.results6, go_sem]) rfl ?_
      exact ⟨rfl, HB.out⟩
    | true =>
      have HMN : Hid (mergE la ln = (mrg la ln, 0)) := Lib.hid (by unfold mergE; rw [hab.1, hord]; rfl)
      have hok := okN_mrg okA hord HFIT.out.2.2
      have HM2 : Hid (mergE (mrg la ln) ln = (mrg la ln, 0)) := Lib.hid (by unfold mergE; rw [ok_list hok, hord, mrg_twice okA hord HFIT.out.2.2]; rfl)
      have HOF := Lib.hid hok.fit
      have HOL : Hid ((mrg la ln).length < 4611686018427387904) := Lib.hid (by have := rise_len hok.rise hok.news; omega)
      clear hab okA okB hord hok
      go_upto_region 4 with (first | (have hx1 := X1; clear hx1; go_at_call 10; refine (own_any lb ab cb _ (HASb.out.below HB.out)).mono ?_; rintro e V ⟨hb, aX2, cX2, rfl, hs⟩; replace X1 := Lib.hid (X1.out.below hb); replace HB := Lib.hid (gNx HB.out hb); have X2 := Lib.hid hs; clear hb hs) | (go_at_call 10; refine (own_any la aa ca _ (HASa.out.below HB.out)).mono ?_; rintro e V ⟨hb, aX1, cX1, rfl, hs⟩;  replace HB := Lib.hid (gNx HB.out hb); have X1 := Lib.hid hs; clear hb hs) | (go_at_call 9; have hq := dDiffE_any la lb _ _ _ _ _ X1.out X2.out HFIT.out.1 HFIT.out.2.1; rw [HDE.out] at hq; refine hq.mono ?_; clear hq; rintro e V ⟨hb, aD, cD, rfl, hs⟩;  replace HB := Lib.hid (gNx HB.out hb); have D := Lib.hid hs; clear hb hs))
      clear X1 X2
      go_upto_region 5 with (first | (go_at_call 10; refine (own_any la aa ca _ (HASa.out.below HB.out)).mono ?_; rintro e V ⟨hb, aX1, cX1, rfl, hs⟩; replace D := Lib.hid (D.out.below hb); replace HB := Lib.hid (gNx HB.out hb); have X1 := Lib.hid hs; clear hb hs) | (go_at_call 12; have hq := dMergeE_any la (diffL la lb) _ _ _ _ _ X1.out D.out HFIT.out.1 HDF.out; rw [HME.out] at hq; refine hq.mono ?_; clear hq; rintro e V ⟨hb, aM, cM, rfl, hs⟩; replace D := Lib.hid (D.out.below hb); replace HB := Lib.hid (gNx HB.out hb); have M := Lib.hid hs; clear hb hs))
      clear X1
      go_upto_region 6 with (first | (have hx1 := X1; clear hx1; go_at_call 10; refine (own_any la aa ca _ (HASa.out.below HB.out)).mono ?_; rintro e V ⟨hb, aX2, cX2, rfl, hs⟩; replace M := Lib.hid (M.out.below hb); replace X1 := Lib.hid (X1.out.below hb); replace HB := Lib.hid (gNx HB.out hb); have X2 := Lib.hid hs; clear hb hs) | (go_at_call 10; refine (own_any la aa ca _ (HASa.out.below HB.out)).mono ?_; rintro e V ⟨hb, aX1, cX1, rfl, hs⟩; replace M := Lib.hid (M.out.below hb); replace HB := Lib.hid (gNx HB.out hb); have X1 := Lib.hid hs; clear hb hs) | (go_at_call 9; have hq := dDiffE_any la la _ _ _ _ _ X1.out X2.out HFIT.out.1 HFIT.out.1; rw [HDS.out] at hq; refine hq.mono ?_; clear hq; rintro e V ⟨hb, aD2, cD2, rfl, hs⟩; replace M := Lib.hid (M.out.below hb); replace HB := Lib.hid (gNx HB.out hb); have D2 := Lib.hid hs; clear hb hs))
      clear X1 X2
      go_upto_region 8 with (go_at_call 14; refine (rSameNews_any lb lb _ _ _ _ _ _ M.out.rows (HBS.out.below HB.out).rows (Nat.le_refl _) HLN.out).mono ?_; rintro e V ⟨⟨r5, rfl, hr5⟩, hb⟩; obtain rfl : r5 = true := hr5.2 (by simp);  replace HB := Lib.hid (gNx HB.out hb); clear hb hr5)
      go_upto_region 9 with (first | (have hx1 := X1; clear hx1; go_at_call 10; refine (own_any ln an cn _ (HASn.out.below HB.out)).mono ?_; rintro e V ⟨hb, aX2, cX2, rfl, hs⟩; replace X1 := Lib.hid (X1.out.below hb); replace HB := Lib.hid (gNx HB.out hb); have X2 := Lib.hid hs; clear hb hs) | (go_at_call 10; refine (own_any la aa ca _ (HASa.out.below HB.out)).mono ?_; rintro e V ⟨hb, aX1, cX1, rfl, hs⟩;  replace HB := Lib.hid (gNx HB.out hb); have X1 := Lib.hid hs; clear hb hs) | (go_at_call 12; have hq := dMergeE_any la ln _ _ _ _ _ X1.out X2.out HFIT.out.1 HFIT.out.2.2; rw [HMN.out] at hq; refine hq.mono ?_; clear hq; rintro e V ⟨hb, aO, cO, rfl, hs⟩;  replace HB := Lib.hid (gNx HB.out hb); have O := Lib.hid hs; clear hb hs))
      clear X1 X2
      go_wp2_with (first | (have hx1 := X1; clear hx1; go_at_call 10; refine (own_any ln an cn _ (HASn.out.below HB.out)).mono ?_; rintro e V ⟨hb, aX2, cX2, rfl, hs⟩; replace X1 := Lib.hid (X1.out.below hb); replace O := Lib.hid (O.out.below hb); replace HB := Lib.hid (gNx HB.out hb); have X2 := Lib.hid hs; clear hb hs) | (go_at_call 10; refine (own_any (mrg la ln) _ _ _ O.out).mono ?_; rintro e V ⟨hb, aX1, cX1, rfl, hs⟩; replace O := Lib.hid (O.out.below hb); replace HB := Lib.hid (gNx HB.out hb); have X1 := Lib.hid hs; clear hb hs) | (go_at_call 12; have hq := dMergeE_any (mrg la ln) ln _ _ _ _ _ X1.out X2.out HOF.out HFIT.out.2.2; rw [HM2.out] at hq; refine hq.mono ?_; clear hq; rintro e V ⟨hb, aQ, cQ, rfl, hs⟩; replace O := Lib.hid (O.out.below hb); replace HB := Lib.hid (gNx HB.out hb); have Q := Lib.hid hs; clear hb hs) | (go_at_call 14; refine (rSameNews_any (mrg la ln) (mrg la ln) _ _ _ _ _ _ O.out.rows Q.out.rows (Nat.le_refl _) HOL.out).mono ?_; rintro e V ⟨⟨r5, rfl, hr5⟩, hb⟩; obtain rfl : r5 = true := hr5.2 (by simp);  replace HB := Lib.hid (gNx HB.out hb); clear hb hr5) | (go_at_call 15; refine (dAwake14_any _).mono ?_; rintro e V ⟨rfl, hb⟩; replace HB := Lib.hid (gNx HB.out hb); clear hb))
      refine bodyPost_ret (v := .bool true) (by simp [results, Try.results6, go_sem]) rfl ?_
      exact ⟨rfl, HB.out⟩
end Go.Proofs.Ytfnmfmelcghjbaa
