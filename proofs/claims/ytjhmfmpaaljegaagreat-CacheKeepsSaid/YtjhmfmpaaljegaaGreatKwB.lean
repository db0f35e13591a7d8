/- Caches, the program: numbers, what is gone, news that may be told; the order of destinations, where one stands. -/
import Derived.Test.YtjhmfmpaaljegaaGreatKwA
import Derived.Test.YtjhmfmpaaljegaaGreatRtA
import Derived.Test.YtjhmfmpaaljegaaGreatMgJ
namespace Go.Proofs.YtjhmfmpaaljegaaGreat
open Go.RowKit Go.Lib Go.Ow Go.Cw Go.Mq Go.Kq Go.Kw
set_option linter.unusedVariables false
set_option linter.unusedSimpArgs false
set_option maxRecDepth 100000

theorem kGone_any (n : Nw) (w : World) : Calls Tryz.prog 62 #[nwV n] w fun e w' => e = .returned (.bool (infP n.dist)) ∧ w' = w.alloc (nwO n) := by
  go_enter Tryz.func62, Tryz.ntmps62
  go_wp2_with (go_at_call 74; refine (isinfP _ _).mono ?_; rintro e w' ⟨rfl, rfl⟩)
  go_ret
  exact ⟨rfl, rfl⟩
theorem kNumber_any (n : Int) (w : World) : Calls Tryz.prog 51 #[.int .i64 n] w fun e w' => e = .returned (.bool (numB n)) ∧ w = w' := by
  unfold numB Iq.idE Iq.idB
  by_cases h1 : 1 ≤ n
  · by_cases h2 : n ≤ 2147483647
    · rw [decide_eq_true (show 1 ≤ n ∧ n ≤ 2147483647 from ⟨h1, h2⟩)]
      go_enter Tryz.func51, Tryz.ntmps51
      go_wp2_with fail
      go_ret
      exact ⟨by simp, rfl⟩
    · rw [decide_eq_false (show ¬ (1 ≤ n ∧ n ≤ 2147483647) from fun h => h2 h.2)]
      go_enter Tryz.func51, Tryz.ntmps51
      go_wp2_with fail
      go_ret
      exact ⟨by simp, rfl⟩
  · rw [decide_eq_false (show ¬ (1 ≤ n ∧ n ≤ 2147483647) from fun h => h1 h.1)]
    go_enter Tryz.func51, Tryz.ntmps51
    go_wp2_with fail
    go_ret
    exact ⟨by simp, rfl⟩
theorem may_adv (l : List Nw) : mayB ⟨2, 1, 1, 1, l, ⟨0, 0, 0, 0, 0, 0, 0, 0, ByteArray.empty, 0, 0, ByteArray.empty⟩⟩ = toldB l := by
  unfold mayB
  simp only
  rw [if_neg (by decide), if_pos (by decide)]
  have hz : zeroPk ⟨0, 0, 0, 0, 0, 0, 0, 0, ByteArray.empty, 0, 0, ByteArray.empty⟩ = true := by decide +kernel
  rw [hz]; simp
theorem kAdvert_any (l : List Nw) (a : Option Addr) (c : Nat) (w : World) (hin : NewsIn w w.heap.size l a) (hfit : ∀ n ∈ l, n.Fit) : Calls Tryz.prog 61 #[.slice a l.length c] w fun e w' => e = .returned (.bool (toldB l)) ∧ Below w.heap.size w w' := by
  have HC := Lib.hid (mCheck_any 2 1 1 1 l a c 0 0 0 0 0 0 0 0 ByteArray.empty 0 0 ByteArray.empty (by decide) w hin hfit)
  rw [may_adv] at HC
  clear hin hfit
  generalize toldB l = B at *
  cases B
  all_goals
    go_enter Tryz.func61, Tryz.ntmps61
    go_wp2_with (go_at_call 73; refine HC.out.mono ?_; rintro e w' ⟨rfl, hb⟩)
    go_ret
    exact ⟨rfl, hb⟩
theorem news_right {w : World} {B : Nat} {l : List Nw} {b o k : Nat} (h : ∀ i (h : i < l.length), NwAt w b (o + i * 5) l[i]) (hb : b < B) : NewsIn w B (l.drop k) (some ⟨b, o + k * 5, none⟩) :=
  Or.inr ⟨b, o + k * 5, rfl, hb, fun i hi => by
    rw [List.length_drop] at hi
    have := h (k + i) (by omega)
    have e : o + (k + i) * 5 = o + k * 5 + i * 5 := by omega
    rw [e] at this
    rw [List.getElem_drop]
    exact this⟩
theorem news_left {w : World} {B : Nat} {l : List Nw} {b o k : Nat} (h : ∀ i (h : i < l.length), NwAt w b (o + i * 5) l[i]) (hb : b < B) : NewsIn w B (l.take k) (some ⟨b, o, none⟩) :=
  Or.inr ⟨b, o, rfl, hb, fun i hi => by
    rw [List.length_take] at hi
    rw [List.getElem_take]
    exact h i (by omega)⟩
set_option maxHeartbeats 4000000 in
theorem kTold_any (l : List Nw) (a : Option Addr) (c : Nat) (w : World) (hin : NewsIn w w.heap.size l a) (hfit : ∀ n ∈ l, n.Fit) (hc : l.length ≤ c) (hc2 : c ≤ 9223372036854775807) : Calls Tryz.prog 45 #[.slice a l.length c] w fun e w' => e = .returned (.bool (orderB l)) ∧ Below w.heap.size w w' := by
  have HIN := Lib.hid hin
  have HFIT := Lib.hid hfit
  have HCC := Lib.hid (And.intro hc hc2)
  clear hin hfit hc hc2
  go_enter Tryz.func45, Tryz.ntmps45
  go_wp2_with fail
  go_loopw [0] (fun v wr => ∃ (m : List Nw) (a : Option Addr) (c : Nat), v = .slice a m.length c ∧ NewsIn wr w.heap.size m a ∧ (∀ n ∈ m, n.Fit) ∧ m.length ≤ c ∧ c ≤ 9223372036854775807 ∧ orderB m = orderB l ∧ Below w.heap.size w wr) (fun v _ => match v with | .slice _ n _ => n | _ => 0)
  case atStart => exact ⟨l, a, c, rfl, HIN.out, HFIT.out, HCC.out.1, HCC.out.2, rfl, Below.refl _ _⟩
  case round =>
    obtain ⟨m, a2, c2, rfl, hin, hfit, hc, hc2, hord, hbel⟩ := hrel
    clear HIN HFIT HCC
    have HB := Lib.hid hbel
    have HORD := Lib.hid hord
    have hsz := hbel.size
    by_cases h5 : 512 < m.length
    · have h5i : (512 : Int) < (m.length : Int) := by omega
      obtain ⟨b, o, rfl, hb, hat⟩ := hin.at 0 (by omega)
      have hl := news_left (k := 512) hat (B := wr.heap.size) (by omega)
      have HA := Lib.hid (kAdvert_any (m.take 512) (some ⟨b, o, none⟩) c2 wr hl (fun n hn => hfit n (List.mem_of_mem_take hn)))
      have e512 : (m.take 512).length = 512 := by rw [List.length_take]; omega
      rw [e512] at HA
      have hsp := order_split h5
      cases ht : toldB (m.take 512) with
      | false =>
        rw [ht] at HA hsp
        have HF : Hid (orderB l = false) := Lib.hid (by rw [← hord, hsp]; rfl)
        clear hat hl hfit hin hord ht e512 hsp
        go_wp2_with (go_at_call 61; refine HA.out.mono ?_; rintro e w' ⟨rfl, hb2⟩; have HB2 := Lib.hid (gNx HB.out hb2); clear hb2)
        refine bodyPost_ret (v := .bool false) (by simp [results, Tryz.results45, go_sem]) rfl ?_
        exact ⟨by rw [HF.out], HB2.out⟩
      | true =>
        rw [ht] at HA hsp
        have HT : Hid (orderB (m.drop 511) = orderB l) := Lib.hid (by rw [← hord, hsp]; rfl)
        have HAT := Lib.hid hat
        have HFIT := Lib.hid hfit
        have HBB := Lib.hid hb
        clear hat hl hfit hin hord ht e512 hsp hb
        have hc3 : (511 : Int) < (c2 : Int) := by omega
        go_wp2_with (go_at_call 61; refine HA.out.mono ?_; rintro e w' ⟨rfl, hb2⟩; have HB2 := Lib.hid (gNx HB.out hb2); have HB3 := Lib.hid hb2; clear hb2)
        refine ⟨⟨m.drop 511, some ⟨b, o + 2555, none⟩, c2 - 511, by rw [List.length_drop], (news_right (k := 511) HAT.out HBB.out).kept (fun i hi => HB3.out.block i (by omega)) (Nat.le_refl _), fun n hn => HFIT.out n (List.mem_of_mem_drop hn), by rw [List.length_drop]; omega, by omega, HT.out, HB2.out⟩, by show m.length - 511 < m.length; omega⟩
    · have h5i : ¬ (512 : Int) < (m.length : Int) := by omega
      have HA := Lib.hid (kAdvert_any m a2 c2 wr (hin.kept (fun _ _ => rfl) hsz) hfit)
      rw [told_512 (by omega)] at HA
      clear hin hfit hord
      go_wp2_with (go_at_call 61; refine HA.out.mono ?_; rintro e w' ⟨rfl, hb2⟩; have HB2 := Lib.hid (gNx HB.out hb2); clear hb2)
      refine bodyPost_ret (v := .bool (orderB m)) (by simp [results, Tryz.results45, go_sem]) rfl ?_
      exact ⟨by rw [HORD.out], HB2.out⟩
def cmpZ (a b : Int) : Int := if a < b then -1 else if b < a then 1 else 0
theorem kNaN_any (x : Int) (w : World) : Calls Tryz.prog 85 #[.int .i64 x] w fun e w' => e = .returned (.bool false) ∧ w = w' := by
  have h : (x == x) = true := beq_self_eq_true x
  go_enter Tryz.func85, Tryz.ntmps85
  go_wp2_with fail
  go_ret
  exact ⟨rfl, rfl⟩
theorem kCmp_any (x y : Int) (w : World) : Calls Tryz.prog 69 #[.int .i64 x, .int .i64 y] w fun e w' => e = .returned (.int .i64 (cmpZ x y)) ∧ w = w' := by
  unfold cmpZ
  by_cases h1 : x < y
  · rw [if_pos h1]
    go_enter Tryz.func69, Tryz.ntmps69
    go_wp2_with (go_at_call 85; refine (kNaN_any _ _).mono ?_; rintro e w' ⟨rfl, rfl⟩)
    go_ret
    exact ⟨rfl, rfl⟩
  · rw [if_neg h1]
    by_cases h2 : y < x
    · rw [if_pos h2]
      go_enter Tryz.func69, Tryz.ntmps69
      go_wp2_with (go_at_call 85; refine (kNaN_any _ _).mono ?_; rintro e w' ⟨rfl, rfl⟩)
      go_ret
      exact ⟨rfl, rfl⟩
    · rw [if_neg h2]
      go_enter Tryz.func69, Tryz.ntmps69
      go_wp2_with (go_at_call 85; refine (kNaN_any _ _).mono ?_; rintro e w' ⟨rfl, rfl⟩)
      go_ret
      exact ⟨rfl, rfl⟩
def orZ (x y : Int) : Int := if x = 0 then y else x
theorem kOr_any (x y : Int) (b : Nat) (w : World) (h0 : w.cell? ⟨b, 0, none⟩ = some (.int .i64 x)) (h1 : w.cell? ⟨b, 1, none⟩ = some (.int .i64 y)) : Calls Tryz.prog 68 #[.slice (some ⟨b, 0, none⟩) 2 2] w fun e w' => e = .returned (.int .i64 (orZ x y)) ∧ w = w' := by
  unfold orZ
  go_enter Tryz.func68, Tryz.ntmps68
  go_wp2_with fail
  go_loopw [8] (fun ii wr => ∃ k : Nat, ii = .int .i64 (k : Int) ∧ k ≤ 2 ∧ wr = w ∧ (1 ≤ k → x = 0) ∧ (2 ≤ k → y = 0)) (fun ii _ => 2 - (RowKit.intOf ii).toNat)
  case atStart => exact ⟨0, rfl, by omega, rfl, by omega, by omega⟩
  case round =>
    obtain ⟨k, rfl, hk, rfl, hx, hy⟩ := hrel
    match k, hk with
    | 0, _ =>
      by_cases h : x = 0
      · subst h
        go_wp2_with fail
        exact ⟨⟨1, by simp, by omega, by simp, by simp, by simp⟩, by simp [RowKit.intOf]⟩
      · have hb : (x != 0) = true := by simp [h]
        go_wp2_with fail
        refine bodyPost_ret (v := .int .i64 x) (by simp [results, Tryz.results68, go_sem]) rfl ?_
        exact ⟨by simp [h], rfl⟩
    | 1, _ =>
      obtain rfl := hx (by omega)
      by_cases h : y = 0
      · subst h
        go_wp2_with fail
        exact ⟨⟨2, by simp, by omega, by simp, by simp, by simp⟩, by simp [RowKit.intOf]⟩
      · have hb : (y != 0) = true := by simp [h]
        go_wp2_with fail
        refine bodyPost_ret (v := .int .i64 y) (by simp [results, Tryz.results68, go_sem]) rfl ?_
        exact ⟨by simp, rfl⟩
    | 2, _ =>
      obtain rfl := hx (by omega)
      obtain rfl := hy (by omega)
      go_wp2_with fail
      refine bodyPost_ret (v := .int .i64 0) (by simp [results, Tryz.results68, go_sem]) rfl ?_
      exact ⟨by simp, rfl⟩
def byD (a b : Nw) : Int := orZ (cmpZ a.kind b.kind) (cmpZ a.dest b.dest)
/-- What a destination may be that is asked for: any two whole numbers. -/
def Wd (n : Nw) : Prop := -9223372036854775808 ≤ n.dest ∧ n.dest < 9223372036854775808
theorem byD_neg {a b : Nw} (ha : Wd a) (hb : Wd b) : byD a b < 0 ↔ ky a < ky b := by
  unfold byD orZ cmpZ ky
  obtain ⟨a1, a2⟩ := ha
  obtain ⟨b1, b2⟩ := hb
  split <;> (try split) <;> (try split) <;> omega
theorem byD_zero {a b : Nw} (ha : Wd a) (hb : Wd b) : byD a b = 0 ↔ ky a = ky b := by
  unfold byD orZ cmpZ ky
  obtain ⟨a1, a2⟩ := ha
  obtain ⟨b1, b2⟩ := hb
  split <;> (try split) <;> (try split) <;> omega
set_option maxHeartbeats 4000000 in
theorem kBy_any (a b : Nw) (w : World) : Calls Tryz.prog 57 #[nwV a, nwV b] w fun e w' => e = .returned (.int .i64 (byD a b)) ∧ Below w.heap.size w w' := by
  go_enter Tryz.func57, Tryz.ntmps57
  go_upto_region 1 with (fail)
  obtain ⟨W1, hW1⟩ : ∃ W1, W1 = (w.alloc (nwO a)).alloc (nwO b) := ⟨_, rfl⟩
  have hb1 : Below w.heap.size w W1 := by rw [hW1]; exact gNx (gAl _ _) (gAl _ _)
  have q0 : W1.rangeAt w.heap.size 0 (nC a) ∧ W1.rangeAt (w.heap.size + 1) 0 (nC b) ∧ W1.heap.size = w.heap.size + 2 := by
    rw [hW1]
    refine ⟨fun j v hj => ?_, fun j v hj => ?_, by simp⟩
    · have h := range_box0 w (nC a) 61 j v hj
      exact (World.cell?_of_block (a := ⟨w.heap.size, 0 + j, none⟩) ((gAl (w.alloc (nwO a)) (nwO b)).block w.heap.size (by simp))).trans h
    · have h := range_box0 (w.alloc (nwO a)) (nC b) 61 j v hj
      simp only [World.size_alloc] at h
      exact h
  have HKA : Hid (∀ V, Below W1.heap.size W1 V → V.cell? ⟨w.heap.size, 0, none⟩ = some (.int .i64 a.dest) ∧ V.cell? ⟨w.heap.size, 1, none⟩ = some (.int .i64 a.kind) ∧ V.cell? ⟨w.heap.size + 1, 0, none⟩ = some (.int .i64 b.dest) ∧ V.cell? ⟨w.heap.size + 1, 1, none⟩ = some (.int .i64 b.kind)) := Lib.hid (fun V hV => by
    obtain ⟨q1, q2, q3⟩ := q0
    exact ⟨(hV.cell (p := ⟨w.heap.size, 0, none⟩) (by show w.heap.size < _; omega)).trans (q1 0 _ rfl), (hV.cell (p := ⟨w.heap.size, 1, none⟩) (by show w.heap.size < _; omega)).trans (q1 1 _ rfl), (hV.cell (p := ⟨w.heap.size + 1, 0, none⟩) (by show w.heap.size + 1 < _; omega)).trans (q2 0 _ rfl), (hV.cell (p := ⟨w.heap.size + 1, 1, none⟩) (by show w.heap.size + 1 < _; omega)).trans (q2 1 _ rfl)⟩)
  have HB1 := Lib.hid hb1
  clear hb1 q0
  rw [← hW1]
  clear hW1
  refine wp_region_held_drew (S := fun V => Below W1.heap.size W1 V) (by kernel_rfl) (Below.drew (Below.refl _ _)) (fun hH => ?_)
  refine tk 0 (by assumption) rfl (by kernel_rfl) (fun _ _ _ h => h) (fun V hV => by go_simp; try with_reducible rfl) ?_
  try simp only [Act.put, sqA, sqB, sqC, sqD, sqE, sqF]
  refine tk 1 (by assumption) rfl (by kernel_rfl) (fun _ _ _ h => h) (fun V hV => by obtain ⟨hx0, hx1, hx2, hx3⟩ := HKA.out V hV; go_simp; try with_reducible rfl) ?_
  try simp only [Act.put, sqA, sqB, sqC, sqD, sqE, sqF]
  refine tk 2 (by assumption) rfl (by kernel_rfl) (fun _ _ _ h => h) (fun V hV => by go_simp; try with_reducible rfl) ?_
  try simp only [Act.put, sqA, sqB, sqC, sqD, sqE, sqF]
  refine tk 3 (by assumption) rfl (by kernel_rfl) (fun _ _ _ h => h) (fun V hV => by obtain ⟨hx0, hx1, hx2, hx3⟩ := HKA.out V hV; go_simp; try with_reducible rfl) ?_
  try simp only [Act.put, sqA, sqB, sqC, sqD, sqE, sqF]
  refine tk 5 (by assumption) rfl (by kernel_rfl) (fun _ _ _ h => h) (fun V hV => by go_simp; try with_reducible rfl) ?_
  try simp only [Act.put, sqA, sqB, sqC, sqD, sqE, sqF]
  refine tk 6 (by assumption) rfl (by kernel_rfl) (fun _ _ _ h => h) (fun V hV => by obtain ⟨hx0, hx1, hx2, hx3⟩ := HKA.out V hV; go_simp; try with_reducible rfl) ?_
  try simp only [Act.put, sqA, sqB, sqC, sqD, sqE, sqF]
  refine tk 7 (by assumption) rfl (by kernel_rfl) (fun _ _ _ h => h) (fun V hV => by go_simp; try with_reducible rfl) ?_
  try simp only [Act.put, sqA, sqB, sqC, sqD, sqE, sqF]
  refine tk 8 (by assumption) rfl (by kernel_rfl) (fun _ _ _ h => h) (fun V hV => by obtain ⟨hx0, hx1, hx2, hx3⟩ := HKA.out V hV; go_simp; try with_reducible rfl) ?_
  try simp only [Act.put, sqA, sqB, sqC, sqD, sqE, sqF]
  refine wpAnyH_ready (rs := [4]) (by kernel_rfl) (by simp) ?_
  refine AllReadyH.cons (o := _) rfl (fun K hK => ?_) AllReadyH.nil
  go_simp
  refine (kCmp_any _ _ _).mono ?_
  rintro e2 V2 ⟨rfl, rfl⟩
  go_wp2_with fail
  refine hK.out _ _ hH (fun hH => ?_)
  clear hK K
  try simp only [Act.put, sqA, sqB, sqC, sqD, sqE, sqF]
  refine wpAnyH_ready (rs := [9]) (by kernel_rfl) (by simp) ?_
  refine AllReadyH.cons (o := _) rfl (fun K hK => ?_) AllReadyH.nil
  go_simp
  refine (kCmp_any _ _ _).mono ?_
  rintro e2 V2 ⟨rfl, rfl⟩
  go_wp2_with fail
  refine hK.out _ _ hH (fun hH => ?_)
  clear hK K
  try simp only [Act.put, sqA, sqB, sqC, sqD, sqE, sqF]
  refine wpAnyH_ready (rs := [10]) (by kernel_rfl) (by simp) ?_
  refine AllReadyH.cons (o := _) rfl (fun K hK => ?_) AllReadyH.nil
  go_simp
  refine hK.out _ _ (gNx hH (gAl _ _)) (fun hH2 => ?_)
  clear hK K
  try simp only [Act.put, sqA, sqB, sqC, sqD, sqE, sqF]
  refine wpAnyH_ready (rs := [11]) (by kernel_rfl) (by simp) ?_
  refine AllReadyH.cons (o := _) rfl (fun K hK => ?_) AllReadyH.nil
  go_simp
  refine (kOr_any (cmpZ a.kind b.kind) (cmpZ a.dest b.dest) _ _ (by simp [go_sem]) (by simp [go_sem])).mono ?_
  rintro e2 V2 ⟨rfl, rfl⟩
  go_wp2_with fail
  refine hK.out _ _ hH2 (fun hH => ?_)
  clear hK K
  try simp only [Act.put, sqA, sqB, sqC, sqD, sqE, sqF]
  refine tk 12 (by assumption) rfl (by kernel_rfl) (fun _ _ _ h => h) (fun V hV => by go_simp; try with_reducible rfl) ?_
  try simp only [Act.put, sqA, sqB, sqC, sqD, sqE, sqF]
  refine wpAnyH_done (by kernel_rfl) ?_ _
  go_wp2_with fail
  refine bodyPost_ret (v := .int .i64 (byD a b)) (by simp [results, Tryz.results57, go_sem, byD]) rfl ?_
  exact ⟨rfl, gNx HB1.out (by assumption)⟩
set_option maxHeartbeats 4000000 in
theorem kSearch_any (l : List Nw) (a : Option Addr) (c : Nat) (t : Nw) (w : World) (hin : NewsIn w w.heap.size l a) (h : Rise l) (hwd : ∀ x ∈ l, Wd x) (ht : Wd t) (hn : l.length < 4611686018427387904) :
    Calls Tryz.prog 56 #[.slice a l.length c, nwV t, .func (.func 57) #[] #[]] w fun e w' => e = .returned (.tuple #[.int .i64 ((lo t l).length : Int), .bool (hasK l t)]) ∧ Below w.heap.size w w' := by
  have HF := Lib.hid hin
  have HS := Lib.hid (And.intro (lo_le t l) (cnt_spec t h))
  have HA := Lib.hid (has_at t h)
  have HN := Lib.hid hn
  have HW := Lib.hid (And.intro hwd ht)
  clear hin h hwd ht
  generalize hcn : (lo t l).length = cn at *
  clear hcn
  go_enter Tryz.func56, Tryz.ntmps56
  obtain ⟨W1, hW1⟩ : ∃ W1, W1 = w.alloc (nwO t) := ⟨_, rfl⟩
  have b1 : Below w.heap.size w W1 := by rw [hW1]; exact gAl _ _
  have q1 : W1.rangeAt w.heap.size 0 (nC t) ∧ W1.heap.size = w.heap.size + 1 := by rw [hW1]; exact ⟨range_box0 _ _ _, by simp⟩
  have HB1 := Lib.hid b1
  have HQ1 := Lib.hid q1
  clear b1 q1
  go_upto_region 1 with (fail)
  rw [← hW1]
  clear hW1
  go_wp2_with fail
  go_loopw [9, 10] (fun u v wr => ∃ i j : Nat, u = .int .i64 (i : Int) ∧ v = .int .i64 (j : Int) ∧ i ≤ j ∧ j ≤ l.length ∧ Below W1.heap.size W1 wr ∧ i ≤ cn ∧ cn ≤ j) (fun u v _ => (RowKit.intOf v).toNat - (RowKit.intOf u).toNat)
  case atStart => exact ⟨0, l.length, rfl, rfl, Nat.zero_le _, Nat.le_refl _, Below.refl _ _, Nat.zero_le _, HS.out.1⟩
  case round =>
    obtain ⟨i, j, rfl, rfl, hij, hjn, hbel, hia, haj⟩ := hrel
    have HB := Lib.hid hbel
    by_cases hlt : i < j
    · have hlti : (i : Int) < (j : Int) := by omega
      obtain ⟨m, hmid⟩ : ∃ m, (i + j) / 2 = m := ⟨_, rfl⟩
      have hm : m < l.length := by omega
      obtain ⟨b, o, rfl, hb, hc⟩ := HF.out.at m hm
      have HIN := Lib.hid (HS.out.2 m hm)
      have hcm := NwS.range (l := [l[m]]) (b := b) (o := o + m * 5) (w := w) (fun k hk => by
        have : k = 0 := by simp at hk; omega
        subst this
        simpa using hc m hm)
      have HWM := Lib.hid (HW.out.1 l[m] (List.getElem_mem _))
      clear hc
      generalize l[m] = x at *
      have HBD := Lib.hid (fun W => kBy_any x t W)
      have HKA : Hid (∀ V, Below wr.heap.size wr V → V.rangeAt b (o + m * 5) (nC x) ∧ V.rangeAt w.heap.size 0 (nC t)) := Lib.hid (fun V hV => by
        have hb1 := HB1.out
        have hq1 := HQ1.out
        have hbs := HB.out.size
        refine ⟨fun q v hq => ?_, fun q v hq => ?_⟩
        · have h0 : w.cell? ⟨b, o + m * 5 + q, none⟩ = some v := hcm q v (by simpa [nRow] using hq)
          exact (hV.cell (p := ⟨b, _, none⟩) (by show b < _; omega)).trans ((HB.out.cell (p := ⟨b, _, none⟩) (by show b < _; omega)).trans ((hb1.cell (p := ⟨b, _, none⟩) hb).trans h0))
        · exact (hV.cell (p := ⟨w.heap.size, _, none⟩) (by show w.heap.size < _; omega)).trans ((HB.out.cell (p := ⟨w.heap.size, _, none⟩) (by show w.heap.size < _; omega)).trans (hq1.1 q v hq)))
      clear hbel hcm hb
      have hn1 := HN.out
      have e1 : IntKind.i64.wrap ((i : Int) + (j : Int)) = (i : Int) + (j : Int) := by rw [IntKind.wrap_i64]; omega
      have e2 : IntKind.u64.wrap ((i : Int) + (j : Int)) = (i : Int) + (j : Int) := by rw [IntKind.wrap_u64]; omega
      have e3 : ((i : Int) + (j : Int)) / 2 = (m : Int) := by omega
      have hmi : (m : Int) < (l.length : Int) := by omega
      have hm0 : (0 : Int) ≤ (m : Int) := by omega
      have e4 : IntKind.i64.wrap ((m : Int) + 1) = (m : Int) + 1 := by rw [IntKind.wrap_i64]; omega
      go_upto_region 5 with (fail)
      try rw [e3]
      by_cases hx : ky x < ky t
      · have hneg : byD x t < 0 := (byD_neg HWM.out HW.out.2).2 hx
        have HLT := Lib.hid (HIN.out.2 hx)
        generalize byD x t = bv at *
        refine wp_region_held_drew (S := fun V => Below wr.heap.size wr V) (by kernel_rfl) (Below.drew (Below.refl _ _)) (fun hH => ?_)
        refine tk 0 (by assumption) rfl (by kernel_rfl) (fun _ _ _ h => h) (fun V hV => by go_simp; try with_reducible rfl) ?_
        try simp only [Act.put, sqA, sqB, sqC, sqD, sqE, sqF]
        refine tk 1 (by assumption) rfl (by kernel_rfl) (fun _ _ _ h => h) (fun V hV => by go_simp; try with_reducible rfl) ?_
        try simp only [Act.put, sqA, sqB, sqC, sqD, sqE, sqF]
        refine tk 2 (by assumption) rfl (by kernel_rfl) (fun _ _ _ h => h) (fun V hV => by go_simp; try with_reducible rfl) ?_
        try simp only [Act.put, sqA, sqB, sqC, sqD, sqE, sqF]
        refine tk 3 (by assumption) rfl (by kernel_rfl) (fun _ _ _ h => h) (fun V hV => by go_simp; try with_reducible rfl) ?_
        try simp only [Act.put, sqA, sqB, sqC, sqD, sqE, sqF]
        refine tk 4 (by assumption) rfl (by kernel_rfl) (fun _ _ _ h => h) (tk_load 61 (.tmp 27) rfl b (o + m * 5) rfl (nC x) _ (fun V hV => (HKA.out V hV).1) Tryz.underlying61 (by rfl) (by kernel_rfl)) ?_
        try simp only [Act.put, sqA, sqB, sqC, sqD, sqE, sqF]
        refine tk 5 (by assumption) rfl (by kernel_rfl) (fun _ _ _ h => h) (tk_load 61 (.tmp 4) rfl w.heap.size 0 rfl (nC t) _ (fun V hV => (HKA.out V hV).2) Tryz.underlying61 (by rfl) (by kernel_rfl)) ?_
        try simp only [Act.put, sqA, sqB, sqC, sqD, sqE, sqF]
        refine wpAnyH_ready (rs := [6]) (by kernel_rfl) (by simp) ?_
        refine AllReadyH.cons (o := _) rfl (fun K hK => ?_) AllReadyH.nil
        go_simp
        refine (HBD.out _).mono ?_
        rintro e2 V2 ⟨rfl, hb2⟩
        go_wp2_with fail
        refine hK.out _ _ (gNx hH hb2) (fun hH2 => ?_)
        clear hK K
        try simp only [Act.put, sqA, sqB, sqC, sqD, sqE, sqF]
        refine tk 7 (by assumption) rfl (by kernel_rfl) (fun _ _ _ h => h) (fun V hV => by go_simp; try with_reducible rfl) ?_
        try simp only [Act.put, sqA, sqB, sqC, sqD, sqE, sqF]
        refine wpAnyH_done (by kernel_rfl) ?_ _
        go_wp2_with fail
        refine ⟨⟨m + 1, j, by simp, rfl, by omega, hjn, gNx HB.out (by assumption), by have := HLT.out; omega, haj⟩, ?_⟩
        simp [RowKit.intOf]; omega
      · have hneg : ¬ byD x t < 0 := fun hh => hx ((byD_neg HWM.out HW.out.2).1 hh)
        have HGE : Hid (cn ≤ m) := Lib.hid (by have h1 := HIN.out; by_cases hq : m < cn; exact absurd (h1.1 hq) hx; omega)
        generalize byD x t = bv at *
        refine wp_region_held_drew (S := fun V => Below wr.heap.size wr V) (by kernel_rfl) (Below.drew (Below.refl _ _)) (fun hH => ?_)
        refine tk 0 (by assumption) rfl (by kernel_rfl) (fun _ _ _ h => h) (fun V hV => by go_simp; try with_reducible rfl) ?_
        try simp only [Act.put, sqA, sqB, sqC, sqD, sqE, sqF]
        refine tk 1 (by assumption) rfl (by kernel_rfl) (fun _ _ _ h => h) (fun V hV => by go_simp; try with_reducible rfl) ?_
        try simp only [Act.put, sqA, sqB, sqC, sqD, sqE, sqF]
        refine tk 2 (by assumption) rfl (by kernel_rfl) (fun _ _ _ h => h) (fun V hV => by go_simp; try with_reducible rfl) ?_
        try simp only [Act.put, sqA, sqB, sqC, sqD, sqE, sqF]
        refine tk 3 (by assumption) rfl (by kernel_rfl) (fun _ _ _ h => h) (fun V hV => by go_simp; try with_reducible rfl) ?_
        try simp only [Act.put, sqA, sqB, sqC, sqD, sqE, sqF]
        refine tk 4 (by assumption) rfl (by kernel_rfl) (fun _ _ _ h => h) (tk_load 61 (.tmp 27) rfl b (o + m * 5) rfl (nC x) _ (fun V hV => (HKA.out V hV).1) Tryz.underlying61 (by rfl) (by kernel_rfl)) ?_
        try simp only [Act.put, sqA, sqB, sqC, sqD, sqE, sqF]
        refine tk 5 (by assumption) rfl (by kernel_rfl) (fun _ _ _ h => h) (tk_load 61 (.tmp 4) rfl w.heap.size 0 rfl (nC t) _ (fun V hV => (HKA.out V hV).2) Tryz.underlying61 (by rfl) (by kernel_rfl)) ?_
        try simp only [Act.put, sqA, sqB, sqC, sqD, sqE, sqF]
        refine wpAnyH_ready (rs := [6]) (by kernel_rfl) (by simp) ?_
        refine AllReadyH.cons (o := _) rfl (fun K hK => ?_) AllReadyH.nil
        go_simp
        refine (HBD.out _).mono ?_
        rintro e2 V2 ⟨rfl, hb2⟩
        go_wp2_with fail
        refine hK.out _ _ (gNx hH hb2) (fun hH2 => ?_)
        clear hK K
        try simp only [Act.put, sqA, sqB, sqC, sqD, sqE, sqF]
        refine tk 7 (by assumption) rfl (by kernel_rfl) (fun _ _ _ h => h) (fun V hV => by go_simp; try with_reducible rfl) ?_
        try simp only [Act.put, sqA, sqB, sqC, sqD, sqE, sqF]
        refine wpAnyH_done (by kernel_rfl) ?_ _
        go_wp2_with fail
        refine ⟨⟨i, m, rfl, by simp, by omega, by omega, gNx HB.out (by assumption), hia, HGE.out⟩, ?_⟩
        simp [RowKit.intOf]; omega
    · have hji : ¬ (i : Int) < (j : Int) := by omega
      have hi : i = cn := by omega
      by_cases hk : i < l.length
      · have hki : (i : Int) < (l.length : Int) := by omega
        have hk0 : (0 : Int) ≤ (i : Int) := by omega
        obtain ⟨b, o, rfl, hb, hc⟩ := HF.out.at i hk
        have hcm := NwS.range (l := [l[i]]) (b := b) (o := o + i * 5) (w := w) (fun k hk => by
          have : k = 0 := by simp at hk; omega
          subst this
          simpa using hc i (by assumption))
        have HWM := Lib.hid (HW.out.1 l[i] (List.getElem_mem _))
        have HR : Hid (hasK l t = decide (byD l[i] t = 0)) := Lib.hid (by
          have h1 := HA.out
          apply bool_ext
          rw [h1, decide_eq_true_eq, byD_zero HWM.out HW.out.2]
          constructor
          · rintro ⟨h2, h3⟩; simpa only [← hi] using h3
          · intro h2; exact ⟨by omega, by simpa only [← hi] using h2⟩)
        clear hc
        have hv := HR.out
        generalize l[i] = x at *
        have HBD := Lib.hid (fun W => kBy_any x t W)
        have HKA : Hid (∀ V, Below wr.heap.size wr V → V.rangeAt b (o + i * 5) (nC x) ∧ V.rangeAt w.heap.size 0 (nC t)) := Lib.hid (fun V hV => by
          have hb1 := HB1.out
          have hq1 := HQ1.out
          have hbs := HB.out.size
          refine ⟨fun q v hq => ?_, fun q v hq => ?_⟩
          · have h0 : w.cell? ⟨b, o + i * 5 + q, none⟩ = some v := hcm q v (by simpa [nRow] using hq)
            exact (hV.cell (p := ⟨b, _, none⟩) (by show b < _; omega)).trans ((HB.out.cell (p := ⟨b, _, none⟩) (by show b < _; omega)).trans ((hb1.cell (p := ⟨b, _, none⟩) hb).trans h0))
          · exact (hV.cell (p := ⟨w.heap.size, _, none⟩) (by show w.heap.size < _; omega)).trans ((HB.out.cell (p := ⟨w.heap.size, _, none⟩) (by show w.heap.size < _; omega)).trans (hq1.1 q v hq)))
        clear hcm hbel hb
        generalize byD x t = bv at *
        have HI := Lib.hid hi
        clear hi
        by_cases h0 : bv = 0
        · subst h0
          go_upto_region 8 with (fail)
          refine wp_region_held_drew (S := fun V => Below wr.heap.size wr V) (by kernel_rfl) (Below.drew (Below.refl _ _)) (fun hH => ?_)
          refine tk 0 (by assumption) rfl (by kernel_rfl) (fun _ _ _ h => h) (fun V hV => by go_simp; try with_reducible rfl) ?_
          try simp only [Act.put, sqA, sqB, sqC, sqD, sqE, sqF]
          refine tk 1 (by assumption) rfl (by kernel_rfl) (fun _ _ _ h => h) (fun V hV => by go_simp; try with_reducible rfl) ?_
          try simp only [Act.put, sqA, sqB, sqC, sqD, sqE, sqF]
          refine tk 2 (by assumption) rfl (by kernel_rfl) (fun _ _ _ h => h) (fun V hV => by go_simp; try with_reducible rfl) ?_
          try simp only [Act.put, sqA, sqB, sqC, sqD, sqE, sqF]
          refine tk 3 (by assumption) rfl (by kernel_rfl) (fun _ _ _ h => h) (fun V hV => by go_simp; try with_reducible rfl) ?_
          try simp only [Act.put, sqA, sqB, sqC, sqD, sqE, sqF]
          refine tk 4 (by assumption) rfl (by kernel_rfl) (fun _ _ _ h => h) (fun V hV => by go_simp; try with_reducible rfl) ?_
          try simp only [Act.put, sqA, sqB, sqC, sqD, sqE, sqF]
          refine tk 5 (by assumption) rfl (by kernel_rfl) (fun _ _ _ h => h) (fun V hV => by go_simp; try with_reducible rfl) ?_
          try simp only [Act.put, sqA, sqB, sqC, sqD, sqE, sqF]
          refine tk 6 (by assumption) rfl (by kernel_rfl) (fun _ _ _ h => h) (fun V hV => by go_simp; try with_reducible rfl) ?_
          try simp only [Act.put, sqA, sqB, sqC, sqD, sqE, sqF]
          refine tk 7 (by assumption) rfl (by kernel_rfl) (fun _ _ _ h => h) (fun V hV => by go_simp; try with_reducible rfl) ?_
          try simp only [Act.put, sqA, sqB, sqC, sqD, sqE, sqF]
          refine tk 8 (by assumption) rfl (by kernel_rfl) (fun _ _ _ h => h) (fun V hV => by go_simp; try with_reducible rfl) ?_
          try simp only [Act.put, sqA, sqB, sqC, sqD, sqE, sqF]
          refine tk 9 (by assumption) rfl (by kernel_rfl) (fun _ _ _ h => h) (tk_load 61 (.tmp 43) rfl b (o + i * 5) rfl (nC x) _ (fun V hV => (HKA.out V hV).1) Tryz.underlying61 (by rfl) (by kernel_rfl)) ?_
          try simp only [Act.put, sqA, sqB, sqC, sqD, sqE, sqF]
          refine tk 10 (by assumption) rfl (by kernel_rfl) (fun _ _ _ h => h) (tk_load 61 (.tmp 4) rfl w.heap.size 0 rfl (nC t) _ (fun V hV => (HKA.out V hV).2) Tryz.underlying61 (by rfl) (by kernel_rfl)) ?_
          try simp only [Act.put, sqA, sqB, sqC, sqD, sqE, sqF]
          refine wpAnyH_ready (rs := [11]) (by kernel_rfl) (by simp) ?_
          refine AllReadyH.cons (o := _) rfl (fun K hK => ?_) AllReadyH.nil
          go_simp
          refine (HBD.out _).mono ?_
          rintro e2 V2 ⟨rfl, hb2⟩
          go_wp2_with fail
          refine hK.out _ _ (gNx hH hb2) (fun hH2 => ?_)
          clear hK K
          try simp only [Act.put, sqA, sqB, sqC, sqD, sqE, sqF]
          refine tk 12 (by assumption) rfl (by kernel_rfl) (fun _ _ _ h => h) (fun V hV => by go_simp; try with_reducible rfl) ?_
          try simp only [Act.put, sqA, sqB, sqC, sqD, sqE, sqF]
          refine tk 13 (by assumption) rfl (by kernel_rfl) (fun _ _ _ h => h) (fun V hV => by go_simp; try with_reducible rfl) ?_
          try simp only [Act.put, sqA, sqB, sqC, sqD, sqE, sqF]
          refine tk 14 (by assumption) rfl (by kernel_rfl) (fun _ _ _ h => h) (fun V hV => by go_simp; try with_reducible rfl) ?_
          try simp only [Act.put, sqA, sqB, sqC, sqD, sqE, sqF]
          refine tk 15 (by assumption) rfl (by kernel_rfl) (fun _ _ _ h => h) (fun V hV => by go_simp; try with_reducible rfl) ?_
          try simp only [Act.put, sqA, sqB, sqC, sqD, sqE, sqF]
          refine wpAnyH_done (by kernel_rfl) ?_ _
          go_wp2_with fail
          refine bodyPost_ret (v := .tuple #[.int .i64 (i : Int), .bool true]) (by simp [results, Tryz.results56, go_sem]) rfl ?_
          exact ⟨by rw [HR.out, HI.out]; simp, gNx HB1.out (gNx HB.out (by assumption))⟩
        · have hb0 : (bv == 0) = false := by simp [h0]
          go_upto_region 8 with (fail)
          refine wp_region_held_drew (S := fun V => Below wr.heap.size wr V) (by kernel_rfl) (Below.drew (Below.refl _ _)) (fun hH => ?_)
          refine tk 0 (by assumption) rfl (by kernel_rfl) (fun _ _ _ h => h) (fun V hV => by go_simp; try with_reducible rfl) ?_
          try simp only [Act.put, sqA, sqB, sqC, sqD, sqE, sqF]
          refine tk 1 (by assumption) rfl (by kernel_rfl) (fun _ _ _ h => h) (fun V hV => by go_simp; try with_reducible rfl) ?_
          try simp only [Act.put, sqA, sqB, sqC, sqD, sqE, sqF]
          refine tk 2 (by assumption) rfl (by kernel_rfl) (fun _ _ _ h => h) (fun V hV => by go_simp; try with_reducible rfl) ?_
          try simp only [Act.put, sqA, sqB, sqC, sqD, sqE, sqF]
          refine tk 3 (by assumption) rfl (by kernel_rfl) (fun _ _ _ h => h) (fun V hV => by go_simp; try with_reducible rfl) ?_
          try simp only [Act.put, sqA, sqB, sqC, sqD, sqE, sqF]
          refine tk 4 (by assumption) rfl (by kernel_rfl) (fun _ _ _ h => h) (fun V hV => by go_simp; try with_reducible rfl) ?_
          try simp only [Act.put, sqA, sqB, sqC, sqD, sqE, sqF]
          refine tk 5 (by assumption) rfl (by kernel_rfl) (fun _ _ _ h => h) (fun V hV => by go_simp; try with_reducible rfl) ?_
          try simp only [Act.put, sqA, sqB, sqC, sqD, sqE, sqF]
          refine tk 6 (by assumption) rfl (by kernel_rfl) (fun _ _ _ h => h) (fun V hV => by go_simp; try with_reducible rfl) ?_
          try simp only [Act.put, sqA, sqB, sqC, sqD, sqE, sqF]
          refine tk 7 (by assumption) rfl (by kernel_rfl) (fun _ _ _ h => h) (fun V hV => by go_simp; try with_reducible rfl) ?_
          try simp only [Act.put, sqA, sqB, sqC, sqD, sqE, sqF]
          refine tk 8 (by assumption) rfl (by kernel_rfl) (fun _ _ _ h => h) (fun V hV => by go_simp; try with_reducible rfl) ?_
          try simp only [Act.put, sqA, sqB, sqC, sqD, sqE, sqF]
          refine tk 9 (by assumption) rfl (by kernel_rfl) (fun _ _ _ h => h) (tk_load 61 (.tmp 43) rfl b (o + i * 5) rfl (nC x) _ (fun V hV => (HKA.out V hV).1) Tryz.underlying61 (by rfl) (by kernel_rfl)) ?_
          try simp only [Act.put, sqA, sqB, sqC, sqD, sqE, sqF]
          refine tk 10 (by assumption) rfl (by kernel_rfl) (fun _ _ _ h => h) (tk_load 61 (.tmp 4) rfl w.heap.size 0 rfl (nC t) _ (fun V hV => (HKA.out V hV).2) Tryz.underlying61 (by rfl) (by kernel_rfl)) ?_
          try simp only [Act.put, sqA, sqB, sqC, sqD, sqE, sqF]
          refine wpAnyH_ready (rs := [11]) (by kernel_rfl) (by simp) ?_
          refine AllReadyH.cons (o := _) rfl (fun K hK => ?_) AllReadyH.nil
          go_simp
          refine (HBD.out _).mono ?_
          rintro e2 V2 ⟨rfl, hb2⟩
          go_wp2_with fail
          refine hK.out _ _ (gNx hH hb2) (fun hH2 => ?_)
          clear hK K
          try simp only [Act.put, sqA, sqB, sqC, sqD, sqE, sqF]
          refine tk 12 (by assumption) rfl (by kernel_rfl) (fun _ _ _ h => h) (fun V hV => by go_simp; try with_reducible rfl) ?_
          try simp only [Act.put, sqA, sqB, sqC, sqD, sqE, sqF]
          refine tk 13 (by assumption) rfl (by kernel_rfl) (fun _ _ _ h => h) (fun V hV => by go_simp; try with_reducible rfl) ?_
          try simp only [Act.put, sqA, sqB, sqC, sqD, sqE, sqF]
          refine tk 14 (by assumption) rfl (by kernel_rfl) (fun _ _ _ h => h) (fun V hV => by go_simp; try with_reducible rfl) ?_
          try simp only [Act.put, sqA, sqB, sqC, sqD, sqE, sqF]
          refine tk 15 (by assumption) rfl (by kernel_rfl) (fun _ _ _ h => h) (fun V hV => by go_simp; try with_reducible rfl) ?_
          try simp only [Act.put, sqA, sqB, sqC, sqD, sqE, sqF]
          refine wpAnyH_done (by kernel_rfl) ?_ _
          go_wp2_with fail
          refine bodyPost_ret (v := .tuple #[.int .i64 (i : Int), .bool false]) (by simp [results, Tryz.results56, go_sem]) rfl ?_
          exact ⟨by rw [HR.out, HI.out]; simp [h0], gNx HB1.out (gNx HB.out (by assumption))⟩
      · have hki : ¬ (i : Int) < (l.length : Int) := by omega
        have HR : Hid (hasK l t = false) := Lib.hid (by
          cases hh : hasK l t with
          | false => rfl
          | true => obtain ⟨h2, _⟩ := HA.out.1 hh; omega)
        have HI := Lib.hid hi
        clear hi hbel
        go_upto_region 8 with (fail)
        refine wp_region_held_drew (S := fun V => Below wr.heap.size wr V) (by kernel_rfl) (Below.drew (Below.refl _ _)) (fun hH => ?_)
        refine tk 0 (by assumption) rfl (by kernel_rfl) (fun _ _ _ h => h) (fun V hV => by go_simp; try with_reducible rfl) ?_
        try simp only [Act.put, sqA, sqB, sqC, sqD, sqE, sqF]
        refine tk 1 (by assumption) rfl (by kernel_rfl) (fun _ _ _ h => h) (fun V hV => by go_simp; try with_reducible rfl) ?_
        try simp only [Act.put, sqA, sqB, sqC, sqD, sqE, sqF]
        refine tk 2 (by assumption) rfl (by kernel_rfl) (fun _ _ _ h => h) (fun V hV => by go_simp; try with_reducible rfl) ?_
        try simp only [Act.put, sqA, sqB, sqC, sqD, sqE, sqF]
        refine tk 3 (by assumption) rfl (by kernel_rfl) (fun _ _ _ h => h) (fun V hV => by go_simp; try with_reducible rfl) ?_
        try simp only [Act.put, sqA, sqB, sqC, sqD, sqE, sqF]
        refine tk 4 (by assumption) rfl (by kernel_rfl) (fun _ _ _ h => h) (fun V hV => by go_simp; try with_reducible rfl) ?_
        try simp only [Act.put, sqA, sqB, sqC, sqD, sqE, sqF]
        refine wpAnyH_take (i := 5) (oi := _) (v := undef) rfl (by kernel_rfl) (by kernel_rfl) (by kernel_rfl) (fun _ _ _ h => h) (Or.inr ⟨by kernel_rfl, rfl⟩) (by assumption) ?_
        try simp only [Act.put, sqA, sqB, sqC, sqD, sqE, sqF]
        refine wpAnyH_take (i := 6) (oi := _) (v := undef) rfl (by kernel_rfl) (by kernel_rfl) (by kernel_rfl) (fun _ _ _ h => h) (Or.inr ⟨by kernel_rfl, rfl⟩) (by assumption) ?_
        try simp only [Act.put, sqA, sqB, sqC, sqD, sqE, sqF]
        refine wpAnyH_take (i := 7) (oi := _) (v := undef) rfl (by kernel_rfl) (by kernel_rfl) (by kernel_rfl) (fun _ _ _ h => h) (Or.inr ⟨by kernel_rfl, rfl⟩) (by assumption) ?_
        try simp only [Act.put, sqA, sqB, sqC, sqD, sqE, sqF]
        refine wpAnyH_take (i := 8) (oi := _) (v := undef) rfl (by kernel_rfl) (by kernel_rfl) (by kernel_rfl) (fun _ _ _ h => h) (Or.inr ⟨by kernel_rfl, rfl⟩) (by assumption) ?_
        try simp only [Act.put, sqA, sqB, sqC, sqD, sqE, sqF]
        refine wpAnyH_take (i := 9) (oi := _) (v := undef) rfl (by kernel_rfl) (by kernel_rfl) (by kernel_rfl) (fun _ _ _ h => h) (Or.inr ⟨by kernel_rfl, rfl⟩) (by assumption) ?_
        try simp only [Act.put, sqA, sqB, sqC, sqD, sqE, sqF]
        refine wpAnyH_take (i := 10) (oi := _) (v := undef) rfl (by kernel_rfl) (by kernel_rfl) (by kernel_rfl) (fun _ _ _ h => h) (Or.inr ⟨by kernel_rfl, rfl⟩) (by assumption) ?_
        try simp only [Act.put, sqA, sqB, sqC, sqD, sqE, sqF]
        refine wpAnyH_take (i := 11) (oi := _) (v := undef) rfl (by kernel_rfl) (by kernel_rfl) (by kernel_rfl) (fun _ _ _ h => h) (Or.inr ⟨by kernel_rfl, rfl⟩) (by assumption) ?_
        try simp only [Act.put, sqA, sqB, sqC, sqD, sqE, sqF]
        refine wpAnyH_take (i := 12) (oi := _) (v := undef) rfl (by kernel_rfl) (by kernel_rfl) (by kernel_rfl) (fun _ _ _ h => h) (Or.inr ⟨by kernel_rfl, rfl⟩) (by assumption) ?_
        try simp only [Act.put, sqA, sqB, sqC, sqD, sqE, sqF]
        refine tk 13 (by assumption) rfl (by kernel_rfl) (fun _ _ _ h => h) (fun V hV => by go_simp; try with_reducible rfl) ?_
        try simp only [Act.put, sqA, sqB, sqC, sqD, sqE, sqF]
        refine tk 14 (by assumption) rfl (by kernel_rfl) (fun _ _ _ h => h) (fun V hV => by go_simp; try with_reducible rfl) ?_
        try simp only [Act.put, sqA, sqB, sqC, sqD, sqE, sqF]
        refine tk 15 (by assumption) rfl (by kernel_rfl) (fun _ _ _ h => h) (fun V hV => by go_simp; try with_reducible rfl) ?_
        try simp only [Act.put, sqA, sqB, sqC, sqD, sqE, sqF]
        refine wpAnyH_done (by kernel_rfl) ?_ _
        go_wp2_with fail
        refine bodyPost_ret (v := .tuple #[.int .i64 (i : Int), .bool false]) (by simp [results, Tryz.results56, go_sem]) rfl ?_
        exact ⟨by rw [HR.out, HI.out], gNx HB1.out (gNx HB.out (by assumption))⟩
set_option maxHeartbeats 4000000 in
theorem kPlace_any (l : List Nw) (a : Option Addr) (c : Nat) (kd ds : Int) (w : World) (hin : NewsIn w w.heap.size l a) (h : Rise l) (hwd : ∀ x ∈ l, Wd x) (ht : -9223372036854775808 ≤ ds ∧ ds < 9223372036854775808) (hn : l.length < 4611686018427387904) :
    Calls Tryz.prog 39 #[.slice a l.length c, .int .i64 kd, .int .i64 ds] w fun e w' => e = .returned (.tuple #[.int .i64 ((lo ⟨ds, kd, 0, 0, 0⟩ l).length : Int), .bool (hasK l ⟨ds, kd, 0, 0, 0⟩)]) ∧ Below w.heap.size w w' := by
  have HC := Lib.hid (kSearch_any l a c ⟨ds, kd, 0, 0, 0⟩ w hin h hwd ht hn)
  clear hin h hwd ht hn
  go_enter Tryz.func39, Tryz.ntmps39
  go_wp2_with (go_at_call 56; refine HC.out.mono ?_; rintro e w' ⟨rfl, hb2⟩)
  refine bodyPost_ret (v := .tuple #[.int .i64 ((lo ⟨ds, kd, 0, 0, 0⟩ l).length : Int), .bool (hasK l ⟨ds, kd, 0, 0, 0⟩)]) (by simp [results, Tryz.results39, go_sem]) rfl ?_
  exact ⟨rfl, hb2⟩
end Go.Proofs.YtjhmfmpaaljegaaGreat
