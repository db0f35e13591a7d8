/- Caches, the program: a list cloned, told, learnt. -/
import Derived.Test.YtjhmfmpaaljegaaGreatKwE
namespace Go.Proofs.YtjhmfmpaaljegaaGreat
open Go.RowKit Go.Lib Go.Ow Go.Cw Go.Fq Go.Mq Go.Kq Go.Kw
set_option linter.unusedVariables false
set_option linter.unusedSimpArgs false
set_option maxRecDepth 100000

theorem nwNil (V : World) (a : Option Addr) (n c : Nat) : (binOp .eql 29 (.slice a n c) (.slice none 0 0)).run Tryz.prog V = .ok (.bool a.isNone) V := Lib.run_eql_slice_nil V 29 _ a n c 0 0 Tryz.underlying29
/-- A row of News of one's own is told. -/
def NwRet (w : World) (l : List Nw) (f : Value → Value) (e : Ending) (w' : World) : Prop := Below w.heap.size w w' ∧ ∃ a c r, e = .returned (f (.slice a l.length c)) ∧ w.heap.size ≤ r ∧ Nr w' r (.slice a l.length c) l
set_option maxHeartbeats 4000000 in
theorem kClone_any {T : Nat → Prop} (l : List Nw) (a : Option Addr) (c : Nat) (w : World) (h : NwS T w l a) (hnil : a = none → l = []) (hl : l.length * 40 ≤ 140737488355328) :
    Calls Tryz.prog 34 #[.slice a l.length c] w fun e w' => NwRet w l id e w' := by
  have heq := nwNil
  cases a with
  | none =>
    obtain rfl := hnil rfl
    clear h hl hnil
    go_enter Tryz.func34, Tryz.ntmps34
    go_wp2_with fail
    go_ret
    exact ⟨Below.refl _ _, none, 0, w.heap.size, rfl, Nat.le_refl _, Or.inl ⟨rfl, rfl, none, rfl⟩⟩
  | some a =>
    obtain ⟨b, o, fz⟩ := a
    obtain ⟨a', c', V, r, hrun, ho, hr, hb⟩ := nw_clone (w := w.alloc (.cells #[] 61)) (c2 := c) (h.below (gAl _ _)) hl (some ⟨w.heap.size, 0, none⟩)
    have HR := Lib.hid hrun
    have HO : Hid (w.heap.size ≤ r ∧ Nr V r (.slice a' l.length c') l) := Lib.hid ⟨Nat.le_trans (gAl w _).size hr, ho⟩
    have HB := Lib.hid (gNx (gAl w (.cells #[] 61)) hb)
    clear h hl hnil hrun ho hb hr
    go_enter Tryz.func34, Tryz.ntmps34
    go_wp2_with (at_builtin; refine Lib.wpList_append_run _ rfl _ _ _ _ rfl _ _ rfl rfl _ _ (HR.out _) ?_)
    go_ret
    exact ⟨HB.out, a', c', r, rfl, HO.out.1, HO.out.2⟩
theorem okN_len {l : List Nw} (h : OkN l) : l.length ≤ 4294967294 := rise_len h.rise h.news
set_option maxHeartbeats 4000000 in
theorem kList_any {S T : Nat → Prop} {w : World} {c mb : Nat} {N : List (Hd × Nat)} (h : Cb S T w c mb N) {k : Int} (hk : -9223372036854775808 ≤ k ∧ k < 9223372036854775808) :
    Calls Tryz.prog 11 #[.pointer (some ⟨c, 0, none⟩), .int .i64 k] w fun e w' => NwRet w (listR (plain N) k).2 (fun v => .tuple #[v, .int .i64 (listR (plain N) k).1]) e w' := by
  unfold listR
  obtain ⟨c0, c1⟩ := h.cells
  rcases h.fnd hk with ⟨hf, hn, hrun⟩ | ⟨p, hp, hid, hf, hrun⟩
  · rw [hf]
    have HN := Lib.hid (kNeigh_none h hrun)
    clear h hrun hf hn
    go_enter Tryz.func11, Tryz.ntmps11
    go_wp2_with (go_at_call 33; refine HN.out.mono ?_; rintro e w' ⟨rfl, rfl⟩)
    refine bodyPost_ret (v := .tuple #[.slice none 0 0, .int .i64 4]) (by simp [results, Tryz.results11, go_sem]) rfl ?_
    exact ⟨Below.refl _ _, none, 0, w.heap.size, rfl, Nat.le_refl _, Or.inl ⟨rfl, rfl, none, rfl⟩⟩
  · rw [hf]
    have HN := Lib.hid (kNeigh_some h hrun)
    obtain ⟨a, cap, b0, b1, f0, f1, hns, hcap, hcap2, hnil⟩ := (h.nbs p hp).cells
    have HC := Lib.hid (kClone_any p.1.ns a cap w hns hnil (by have := okN_len (h.ok.ns p.1 (List.mem_map.2 ⟨p, hp, rfl⟩)); omega))
    clear h hrun hf hns hcap hcap2 hnil
    go_enter Tryz.func11, Tryz.ntmps11
    go_wp2_with (first | (go_at_call 33; refine HN.out.mono ?_; rintro e w' ⟨rfl, rfl⟩) | (go_at_call 34; refine HC.out.mono ?_; rintro e w2 ⟨hb2, a2, c2, r2, rfl, hr2, ho2⟩; have HE := Lib.hid (And.intro hb2 (And.intro hr2 ho2)); clear hb2 hr2 ho2))
    refine bodyPost_ret (v := .tuple #[.slice a2 p.1.ns.length c2, .int .i64 0]) (by simp [results, Tryz.results11, go_sem]) rfl ?_
    exact ⟨HE.out.1, a2, c2, r2, rfl, HE.out.2⟩
set_option maxHeartbeats 4000000 in
theorem kLearn_any {S T : Nat → Prop} {w : World} {c mb : Nat} {N : List (Hd × Nat)} (h : Cb S T w c mb N) {k : Int} (hk : -9223372036854775808 ≤ k ∧ k < 9223372036854775808) (news : List Nw) (na : Option Addr) (nc : Nat) (hin : NewsIn w w.heap.size news na) (hfit : ∀ x ∈ news, x.Fit) (hnc : news.length ≤ nc) (hnc2 : nc ≤ 9223372036854775807) :
    Calls Tryz.prog 20 #[.pointer (some ⟨c, 0, none⟩), .int .i64 k, .slice na news.length nc] w fun e w' => e = .returned (.tuple #[.int .i64 ((learnR (plain N) k news).2.1 : Int), .int .i64 (learnR (plain N) k news).1]) ∧ Pst S T w w' c (learnR (plain N) k news).2.2 := by
  unfold learnR
  obtain ⟨c0, c1⟩ := h.cells
  have HP := Lib.hid (fun w' (hb : Below w.heap.size w w') => Pst.same h hb)
  rcases h.fnd hk with ⟨hf, hn, hrun⟩ | ⟨p, hp, hid, hf, hrun⟩
  · rw [hf]
    have HN := Lib.hid (kNeigh_none h hrun)
    clear h hrun hf hn hin hfit hnc hnc2
    go_enter Tryz.func20, Tryz.ntmps20
    go_wp2_with (go_at_call 33; refine HN.out.mono ?_; rintro e w' ⟨rfl, rfl⟩)
    refine bodyPost_ret (v := .tuple #[.int .i64 0, .int .i64 4]) (by simp [results, Tryz.results20, go_sem]) rfl ?_
    exact ⟨rfl, HP.out _ (Below.refl _ _)⟩
  · rw [hf]
    have HN := Lib.hid (kNeigh_some h hrun)
    have HT := Lib.hid (kTold_any news na nc w hin hfit hnc (by omega))
    cases ho : orderB news with
    | false =>
      rw [ho] at HT
      clear h hrun hf hin hfit hnc hnc2
      go_enter Tryz.func20, Tryz.ntmps20
      go_wp2_with (first | (go_at_call 33; refine HN.out.mono ?_; rintro e w' ⟨rfl, rfl⟩) | (go_at_call 45; refine HT.out.mono ?_; rintro e w2 ⟨rfl, hb2⟩; have HB2 := Lib.hid hb2; clear hb2))
      refine bodyPost_ret (v := .tuple #[.int .i64 0, .int .i64 1]) (by simp [results, Tryz.results20, go_sem]) rfl ?_
      exact ⟨rfl, HP.out _ HB2.out⟩
    | true =>
      rw [ho] at HT
      simp only [if_true]
      have HC := Lib.hid h
      have hpm : p.1 ∈ plain N := List.mem_map.2 ⟨p, hp, rfl⟩
      have hokn := h.ok.ns p.1 hpm
      have HM : Hid (∀ W, Below w.heap.size w W → ∃ a cap, W.cell? ⟨p.2, 1, none⟩ = some (.slice a p.1.ns.length cap) ∧ Calls Tryz.prog 46 #[.slice a p.1.ns.length cap, .slice na news.length nc] W fun e w' => Below W.heap.size W w' ∧ ∃ a' c' r, W.heap.size ≤ r ∧ e = .returned (.tuple #[.slice a' (mrg p.1.ns news).length c', .int .i64 (chg p.1.ns news : Int)]) ∧ Nr w' r (.slice a' (mrg p.1.ns news).length c') (mrg p.1.ns news)) := Lib.hid (fun W hW => by
        obtain ⟨a, cap, b0, b1, f0, f1, hns, hcap, hcap2, hnil⟩ := ((h.below hW).nbs p hp).cells
        exact ⟨a, cap, b1, kMerge_any p.1.ns news a cap na nc W hns.news hokn.rise (fun x hx => ⟨hokn.news x hx, hokn.fit x hx⟩) ⟨hcap, hcap2⟩ (hin.kept (fun i hi => hW.block i hi) hW.size) ho hfit⟩)
      have HOK := Lib.hid (okN_mrg hokn ho hfit)
      clear h hrun hf hin hfit hnc hnc2 hokn ho
      generalize mrg p.1.ns news = ML at *
      generalize chg p.1.ns news = ch at *
      go_enter Tryz.func20, Tryz.ntmps20
      go_upto_region 6 with (first | (go_at_call 33; refine HN.out.mono ?_; rintro e w' ⟨rfl, rfl⟩) | (go_at_call 45; refine HT.out.mono ?_; rintro e w2 ⟨rfl, hb2⟩; have HB2 := Lib.hid hb2; clear hb2))
      obtain ⟨a, cap, b1, hm⟩ := HM.out w2 HB2.out
      have HMG := Lib.hid hm
      clear hm HM
      go_upto_region 7 with (go_at_call 46; refine HMG.out.mono ?_; rintro e w3 ⟨hb3, a3, c3, r3, hr3, rfl, hrow3⟩; have HB3 := Lib.hid (gNx HB2.out hb3); have HR3 := Lib.hid (And.intro (show w.heap.size ≤ r3 by have := HB2.out.size; omega) hrow3); clear hb3 hr3 hrow3)
      clear b1
      obtain ⟨a4, cap4, b0, b1, f0, f1, -⟩ := ((HC.out.below HB3.out).nbs p hp).cells
      go_wp2_with fail
      refine bodyPost_ret (v := .tuple #[.int .i64 (ch : Int), .int .i64 0]) (by simp [results, Tryz.results20, go_sem]) rfl ?_
      refine ⟨rfl, ?_⟩
      have hcb := (HC.out.below HB3.out)
      have hl := HC.out.lt
      obtain ⟨a5, cap5, hblk, -⟩ := hcb.nbs p hp
      have hpl := (HC.out.nbs p hp).lt
      have hs3 := HB3.out.size
      have hcl := hl.kept (w' := w3) (fun b hb _ => HB3.out.block b (by rcases hb with hb | hb; exact hb.2; exact hb.2)) hs3
      have hrp : r3 ≠ p.2 := by have := HR3.out.1; omega
      have hns5 : NwS (fun b => (T b ∧ b < w.heap.size) ∨ b = r3) (w3.setCell ⟨p.2, 1, none⟩ (.slice a3 ML.length c3)) ML a3 := by
        have := nr_nws HR3.out.2
        refine (this.kept (fun b hb _ => ?_) (by simp [World.setCell])).mono (fun b hb => Or.inr hb)
        rw [hb]
        exact Below.heap_setCell _ _ _ _ hrp
      have hcapr : ML.length ≤ c3 ∧ c3 ≤ 9223372036854775807 ∧ (a3 = none → ML = []) := by
        rcases HR3.out.2 with ⟨h0, h1, a', e⟩ | ⟨o, cp, cur, e, h1, h2, h3, -⟩
        · simp only [Value.slice.injEq] at e
          obtain ⟨e1, e2, e3⟩ := e
          exact ⟨by omega, by omega, fun _ => List.length_eq_zero_iff.1 h0⟩
        · cases e
          exact ⟨h2, by unfold maxLen at h3; omega, fun e => by cases e⟩
      have hx := Cb.upd hcl hp (w' := w3.setCell ⟨p.2, 1, none⟩ (.slice a3 ML.length c3)) (T' := fun b => (T b ∧ b < w.heap.size) ∨ b = r3) ⟨p.1.id, p.1.wt, ML⟩ rfl (HC.out.ok.wt p.1 hpm) HOK.out (fun b _ hne => Below.heap_setCell _ _ _ _ hne) (by simp [World.setCell]) (fun _ h => Or.inl h) (fun b hb ht => by
        rcases ht with ht | ht
        · exact hl.st b hb ht
        · have := HR3.out.1; have := hb.2; omega) ⟨a3, c3, (set_two hblk).2 _, hns5, hcapr⟩
      refine ⟨(Xs.of_below HB3.out).trans (xs_set (S := S) (HC.out.sn p hp) _) (fun j hj => Or.inl hj), fun b => S b ∧ b < w.heap.size, fun b => (T b ∧ b < w.heap.size) ∨ b = r3, mb, _, ?_, hx, fun b hb => Or.inl hb.1, fun b hb => ?_⟩
      · rw [plain_upd, hid]
      · rcases hb with hb | hb
        · exact Or.inl hb.1
        · right; have := HR3.out.1; omega
end Go.Proofs.YtjhmfmpaaljegaaGreat
