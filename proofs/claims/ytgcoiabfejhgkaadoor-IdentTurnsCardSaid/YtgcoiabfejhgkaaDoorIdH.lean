/- Order: the program's. -/
import Derived.Test.YtgcoiabfejhgkaaDoorIdG
import Derived.Test.YtgcoiabfejhgkaaDoorIqW
namespace Go.Proofs.YtgcoiabfejhgkaaDoor
open Go.RowKit Go.Lib Go.Iq Go.Sort
set_option linter.unusedVariables false

theorem infoWish : (Tryd.prog.info? 52).map (fun i => (i.zero, i.size, i.bytes)) = some (some (.agg #[.int .i64 0, .int .u64 0]), 2, 16) := by kernel_rfl

theorem cmpW (blk off size : Nat) (w : World) : CmpLays Tryd.prog 48 #[] encW 2 cfW blk off size w :=
  fun _ _ _ _ x y => wantsMore_grow x.id x.sc y.id y.sc x.okSc y.okSc x.okId y.okId _

theorem sortFunc_any (g n cap : Nat) (d : Array Wish) (w : World) (hd : d.size = n) (hH : HoldsK encW 2 w g 0 d) (hg : g < w.heap.size) (hn : n < 4611686018427387904) :
    Calls Tryd.prog 47 #[.slice (some ⟨g, 0, none⟩) n cap, .func (.func 48) #[] #[]] w fun e w' => e = .returned (.tuple #[]) ∧ ∃ q os, w' = sortWorldK encW 2 w g 0 q (d.toList.mergeSort fun x y => !(ltOf cfW) y x).toArray os := by
  have eg : ∀ args w, (callFunc 48 args).run Tryd.prog w = .ok (.enter 48 args) w := enters_of Tryd.func48 (by kernel_rfl) rfl
  subst hd
  exact AnyQ.slices_SortFunc_total Tryd.sortWish 2 Tryd.isAgg52 Tryd.sizeOf52 encW (fun _ => rfl) (fun x v hv => by simp [encW] at hv; rcases hv with rfl | rfl <;> rfl) cfW swoW 48 #[] g 0 cap d w eg (cmpW g 0 d.size w) hH hg hn totalW

def wishF (zs : List Int) (i : Nat) : Value := .int .i64 (zs.getD i 0)
def wishH (s : Int) (zs : List Int) (i : Nat) : Value := .int .u64 (scoreI (zs.getD i 0) s)
theorem filled_holds {w : World} {base : Nat} {t : TypeId} {g n cap : Nat} {s : Int} {zs : List Int} (hz : zs.length = n) (ha : zs.all idB = true) (h : Filled w base t g n cap n (wishF zs) (wishH s zs)) : HoldsK encW 2 w g 0 (wishes s zs) := by
  have hp := h.pairs
  obtain ⟨xs, h1, _⟩ := h
  refine holdsK_of w g n _ (by rw [wishes_size, hz]) (fun i hi => ?_) (fun j => h1.frozenAt j)
  have hi' : i < zs.length := by omega
  have e : (wishes s zs)[i]! = mkW s (zs.getD i 0) := by
    unfold wishes
    rw [getElem!_pos _ i (by simpa using hi')]
    simp [List.getD, hi']
  have hid := idB_at ha i hi'
  rw [e, mkW_id hid, mkW_sc hid]
  exact hp i hi
theorem sortW_at (s : Int) (zs : List Int) (n : Nat) (hz : zs.length = n) (i : Nat) (hi : i < n) : ((sortW s zs).toArray[i]!).id = (orderW s zs).getD i 0 := by
  have h1 : i < (sortW s zs).length := by rw [sortW_length]; omega
  rw [getElem!_pos _ i (by simpa using h1)]
  unfold orderW
  rw [getD_get _ i 0 (by simpa using h1)]
  simp

set_option maxHeartbeats 2000000 in
set_option maxRecDepth 100000 in
theorem order_ok (a : Option Addr) (len cap : Nat) (zs : List Int) (s : ByteArray) (w : World) (hI : IsInts w a len zs) (hl : len * 8 ≤ 140737488351232) (hs : s.size ≤ 9223372036854775807) (hn : nameB s.data.toList = true) (hE : listE zs = 0) :
    Calls Tryd.prog 28 #[.slice a len cap, .string s] w fun e w' => ∃ a' cap', e = .returned (.tuple #[.slice a' len cap', .int .i64 0]) ∧ w'.ownsRow w.heap.size 3 1 (.slice a' len cap') len ((orderW (sumI s.data.toList) zs).map (Value.int .i64)) ∧ Below w.heap.size w w' := by
  obtain ⟨i0, hi, hz0, hz1, hz2⟩ := info_parts infoWish
  obtain ⟨j0, ji, jz0, jz1, jz2⟩ := info_parts infoInt
  have HI := Lib.hid hI
  have HZ := Lib.hid hI.1
  have HL := Lib.hid (fun w (h : IsInts w a len zs) => checkIds_any a len cap zs w h (by omega))
  have H63 : Hid (len ≤ maxLen) := Lib.hid (by unfold maxLen; omega)
  have H48 : Hid (i0.bytes * len ≤ 281474976710656) := Lib.hid (by rw [hz2]; omega)
  have J48 : Hid (j0.bytes * len ≤ 281474976710656) := Lib.hid (by rw [jz2]; omega)
  have h1 := Lib.hid (nameE_yes hn)
  have h4 := Lib.hid hE
  have HA := Lib.hid (listE_zero hE).1
  have HU := Lib.hid (sumI_bd s.data.toList)
  have HSm := Lib.hid (fun w => sum_any s w hs)
  clear hI hn hE
  generalize sumI s.data.toList = t at *
  go_enter Tryd.func28, Tryd.ntmps28
  go_wp2_with (first | (go_at_call 12; refine (checkName_any _ _ hs).mono ?_; rintro e w' ⟨rfl, rfl⟩; rw [h1.out]) | (go_at_call 42; refine (HL.out _ HI.out).mono ?_; rintro e w1 ⟨rfl, hb1⟩; rw [h4.out]; have HB1 := Lib.hid hb1; clear hb1) | (go_at_call 21; refine (HSm.out _).mono ?_; rintro e w' ⟨rfl, rfl⟩) | (at_make; refine wpList_make_full _ rfl _ _ 64 rfl w1.heap.size 52 i0 _ 2 Tryd.underlying64 hi hz0 hz1 .i64 .i64 len len len rfl rfl rfl rfl H48.out H63.out (Nat.le_refl _) ?_; intro w2 hown hg; have HO := Lib.hid hown; have HG := Lib.hid hg; clear hown hg))
  have HB2 : Hid (Below w.heap.size w w2) := Lib.hid (HB1.out.trans ((Below.refl _ _).grown HG.out (Nat.le_trans HB1.out.size (Nat.le_refl _)) (fun k hk => by cases hk)))
  have HF : Hid (Filled w2 w1.heap.size 52 w1.heap.size len len 0 (wishF zs) (wishH t zs)) := Lib.hid ⟨_, HO.out, fun i h => absurd h (by omega)⟩
  have hge := HB1.out.size
  have hgs : w1.heap.size < w2.heap.size := (HO.out.lt w1.heap.size rfl).2
  clear HO HG
  obtain ⟨g, hgg⟩ : ∃ g, g = w1.heap.size := ⟨_, rfl⟩
  rw [← hgg] at HF hge hgs ⊢
  clear hgg HB1
  go_loopw [32] (fun i wr => ∃ k : Nat, k ≤ len ∧ i = .int .i64 k ∧ Filled wr g 52 g len len k (wishF zs) (wishH t zs) ∧ Below w.heap.size w wr ∧ g < wr.heap.size) (fun i _ => len - (intOf i).toNat)
  case atStart => exact ⟨0, Nat.zero_le _, rfl, HF.out, HB2.out, hgs⟩
  case round =>
    obtain ⟨k, hk, rfl, hF, hb, hgr⟩ := hrel
    have HF := Lib.hid hF
    have HB := Lib.hid hb
    clear hF hb
    by_cases hlt : k < len
    · obtain ⟨b, off, rfl, hc⟩ := HI.out.2 (by omega)
      have c0 := hc k hlt
      have c1 : wr.cell? ⟨b, off + k, none⟩ = some (.int .i64 (zs.getD k 0)) := by
        rw [← c0]; exact HB.out.cell (p := ⟨b, off + k, none⟩) (block_lt c0)
      have hid := idB_iff.1 (idB_at HA.out k (by rw [HZ.out]; exact hlt))
      have HN : ∀ w2, Below wr.heap.size wr w2 → Hid (Filled ((w2.setCell ⟨g, k * 2, none⟩ (.int .i64 (zs.getD k 0))).setCell ⟨g, k * 2 + 1, none⟩ (.int .u64 (scoreI (zs.getD k 0) t))) g 52 g len len (k + 1) (wishF zs) (wishH t zs)) := fun w2 h => Lib.hid ((HF.out.below h).next hlt)
      have HW : Hid (∀ z w', Calls Tryd.prog 39 #[.agg #[.int .i64 z, .int .u64 (mixI z)], .int .u64 t] w' fun e w'' => e = .returned (.agg #[.int .i64 z, .int .u64 (scoreI z t)]) ∧ Below w'.heap.size w' w'') := Lib.hid (fun z w' => wishOf_any z _ _ (mixI_bd z) HU.out w')
      clear hc c0
      generalize zs.getD k 0 = z at *
      go_wp2_with fail
      refine (stir_any _ (by omega) (by omega) _).mono ?_
      rintro e w3 ⟨rfl, hb2⟩
      go_wp2_with fail
      refine (HW.out z _).mono ?_
      rintro e w4 ⟨rfl, hb3⟩
      have hb4 := below_next hb2 hb3
      have HN2 := HN w4 hb4
      clear HN
      have f1 : ∀ j, w4.frozen? ⟨g, j, none⟩ = false := fun j => by
        obtain ⟨xs, h1, _⟩ := HF.out.below hb4; exact h1.frozenAt j
      obtain ⟨v0, v1, g0, g1⟩ : ∃ v0 v1, w4.cell? ⟨g, k * 2, none⟩ = some v0 ∧ w4.cell? ⟨g, k * 2 + 1, none⟩ = some v1 := by
        obtain ⟨xs, h1, _⟩ := HF.out.below hb4
        have hx : xs.length = len * 2 := h1.1
        exact ⟨xs[k * 2]'(by omega), xs[k * 2 + 1]'(by omega), (h1.cellAt _ (by omega)).trans (List.getElem?_eq_getElem _), (h1.cellAt _ (by omega)).trans (List.getElem?_eq_getElem _)⟩
      have HB3 := Lib.hid (HB.out.trans (hb4.mono HB.out.size))
      have hg4 := hb4.size
      clear hb2 hb3 hb4
      go_wp2
      go_roundw
      case rel => exact ⟨k + 1, by omega, by go_num, HN2.out, (HB3.out.setCell (by omega) _).setCell (by omega) _, by simp; omega⟩
      case measure => simp [intOf]; omega
    · obtain rfl : k = len := by omega
      have HH := Lib.hid (filled_holds HZ.out HA.out HF.out)
      clear HF
      go_wp2_with fail
      refine (sortFunc_any g k k (wishes t zs) _ (by rw [wishes_size, HZ.out]) HH.out hgr (by omega)).mono ?_
      rintro e w3 ⟨rfl, q, os, hw3⟩
      have HC3 : Hid (∀ i, i < k → w3.cell? ⟨g, i * 2, none⟩ = some (.int .i64 ((orderW t zs).getD i 0)) ∧ ∃ v, w3.cell? ⟨g, i * 2 + 1, none⟩ = some (.int .u64 v)) := Lib.hid (fun i hi => by
        have h := holdsK_sortWorldK encW 2 wr g 0 q (wishes t zs) (sortW t zs).toArray os hgr HH.out (by simp [sortW_length, wishes_size])
        have h' := cells_of_holdsK _ g k _ (by simp [sortW_length, HZ.out]) h i hi
        rw [sortW_at t zs k HZ.out i hi] at h'
        have e : w3 = sortWorldK encW 2 wr g 0 q (sortW t zs).toArray os := hw3
        rw [← e] at h'
        exact ⟨h'.1, _, h'.2⟩)
      have HB3 : Hid (Below w.heap.size w w3) := Lib.hid (by rw [hw3]; exact below_sortWorldK HB.out hge HB.out.size)
      have hg3 : g < w3.heap.size := by rw [hw3]; exact lt_sortWorldK encW 2 wr g 0 q _ os hgr
      clear hw3 HH
      go_wp2_with (at_make; refine wpList_make_full _ rfl _ _ 37 rfl w3.heap.size 3 j0 _ 1 Tryd.underlying37 ji jz0 jz1 .i64 .i64 k k k rfl rfl rfl rfl J48.out H63.out (Nat.le_refl _) ?_; intro w5 hown hg; have HO := Lib.hid hown; have HG := Lib.hid hg; clear hown hg)
      have HB5 : Hid (Below w3.heap.size w3 w5) := Lib.hid ((Below.refl _ _).grown HG.out (Nat.le_refl _) (fun k hk => by cases hk))
      have HL5 : Hid (w3.heap.size < w5.heap.size) := Lib.hid (HO.out.lt w3.heap.size rfl).2
      go_loopw [52] (fun i wr => ∃ m : Nat, m ≤ k ∧ i = .int .i64 m ∧ (∃ xs, wr.ownsRow w3.heap.size 3 1 (.slice (some ⟨w3.heap.size, 0, none⟩) k k) k xs ∧ ∀ i, i < m → xs[i]? = some (.int .i64 ((orderW t zs).getD i 0))) ∧ Below w3.heap.size w3 wr ∧ w3.heap.size < wr.heap.size) (fun i _ => k - (intOf i).toNat)
      case atStart => exact ⟨0, Nat.zero_le _, rfl, ⟨_, HO.out, fun i h => absurd h (by omega)⟩, HB5.out, HL5.out⟩
      case round =>
        obtain ⟨m, hm, rfl, ⟨xs, hown, hpre⟩, hb, hlt3⟩ := hrel
        have HO := Lib.hid hown
        have HPr := Lib.hid hpre
        have HB := Lib.hid hb
        clear hown hpre hb
        by_cases hlt2 : m < k
        · obtain ⟨c0, v, c1⟩ := HC3.out m hlt2
          have c0' : wr.cell? ⟨g, m * 2, none⟩ = some (.int .i64 ((orderW t zs).getD m 0)) := (HB.out.cell (p := ⟨g, m * 2, none⟩) hg3).trans c0
          have c1' : wr.cell? ⟨g, m * 2 + 1, none⟩ = some (.int .u64 v) := (HB.out.cell (p := ⟨g, m * 2 + 1, none⟩) hg3).trans c1
          have hx : xs.length = k * 1 := HO.out.1
          have hco : wr.cell? ⟨w3.heap.size, m, none⟩ = some (xs[m]'(by omega)) := (HO.out.cellAt m (by omega)).trans (List.getElem?_eq_getElem _)
          have hfo : wr.frozen? ⟨w3.heap.size, m, none⟩ = false := HO.out.frozenAt m
          have HNx : Hid (∀ o, ∃ xs', ((wr.setCell ⟨w3.heap.size, m, none⟩ (.int .i64 ((orderW t zs).getD m 0))).alloc o).ownsRow w3.heap.size 3 1 (.slice (some ⟨w3.heap.size, 0, none⟩) k k) k xs' ∧ ∀ i, i < m + 1 → xs'[i]? = some (.int .i64 ((orderW t zs).getD i 0))) := Lib.hid (fun o => by
            refine ⟨_, (HO.out.stored m _).1.alloc o, fun i hi => ?_⟩
            by_cases e : i = m
            · subst e; rw [List.getElem?_set_self (by omega)]
            · rw [List.getElem?_set_ne (by omega)]; exact HPr.out i (by omega))
          generalize xs[m]'(by omega) = x0 at hco
          clear c0 c1 hx HPr HO
          generalize (orderW t zs).getD m 0 = y at *
          go_wp2
          go_roundw
          case rel => exact ⟨m + 1, by omega, by go_num, HNx.out _, (HB.out.setCell (Nat.le_refl _) _).alloc (by simp; omega) _, by simp; omega⟩
          case measure => simp [intOf]; omega
        · obtain rfl : m = k := by omega
          have HY : Hid ((orderW t zs).length = m) := Lib.hid (by unfold orderW; rw [List.length_map, sortW_length, HZ.out])
          have HX : Hid (xs = (orderW t zs).map (Value.int .i64)) := Lib.hid (by
            refine List.ext_getElem? fun i => ?_
            by_cases hi : i < m
            · rw [HPr.out i hi, List.getElem?_map, List.getElem?_eq_getElem (by rw [HY.out]; exact hi), getD_get _ i 0 (by rw [HY.out]; exact hi)]; rfl
            · have hx : xs.length = m * 1 := HO.out.1
              rw [List.getElem?_eq_none (by omega), List.getElem?_eq_none (by rw [List.length_map, HY.out]; omega)])
          go_wp2
          go_ret2
          refine ⟨_, _, rfl, ?_, HB3.out.trans (HB.out.mono HB3.out.size)⟩
          rw [← HX.out]
          obtain ⟨h1, h2⟩ := HO.out
          refine ⟨h1, ?_⟩
          rcases h2 with h2 | ⟨gg, cc, cur, e1, e2, e3⟩
          · exact .inl h2
          · exact .inr ⟨gg, cc, cur, e1, Nat.le_trans HB3.out.size e2, e3⟩
end Go.Proofs.YtgcoiabfejhgkaaDoor
