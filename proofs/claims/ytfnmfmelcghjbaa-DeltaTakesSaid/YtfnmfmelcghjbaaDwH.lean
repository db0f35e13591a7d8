/- Deltas, the program: Diff, Merge, Settled, Take; the laws' own, awake. -/
import Derived.Test.YtfnmfmelcghjbaaDwG
namespace Go.Proofs.Ytfnmfmelcghjbaa
open Go.RowKit Go.Lib Go.Ow Go.Cw Go.Fq Go.Mq Go.Kq Go.Kw Go.Dq
set_option linter.unusedVariables false
set_option linter.unusedSimpArgs false
set_option maxRecDepth 100000

theorem diff_core (aa ab : Option Addr) (na nb ca cb : Nat) (w : World) (B1 B2 : Bool) (L : List Nw) (hw : IntKind.i64.wrap ((na : Int) + (nb : Int)) = (na : Int) + (nb : Int))
    (H1 : Hid (Calls Try.prog 30 #[.slice aa na ca] w fun e w' => e = .returned (.bool B1) ∧ Below w.heap.size w w'))
    (H2 : Hid (∀ V, Below w.heap.size w V → Calls Try.prog 30 #[.slice ab nb cb] V fun e w' => e = .returned (.bool B2) ∧ Below V.heap.size V w'))
    (H3 : Hid (∀ V, Below w.heap.size w V → B1 = true → B2 = true → Calls Try.prog 31 #[.slice aa na ca, .slice ab nb cb, .int .i64 ((na : Int) + (nb : Int))] V fun e w' => Below V.heap.size V w' ∧ ∃ a c, e = .returned (.slice a L.length c) ∧ Sl w' L a c)) :
    Calls Try.prog 9 #[.slice aa na ca, .slice ab nb cb] w fun e w' => Below w.heap.size w w' ∧ ∃ a c, e = .returned (.tuple #[.slice a (if B1 && B2 then L else []).length c, .int .i64 (if B1 && B2 then 0 else 1)]) ∧ Sl w' (if B1 && B2 then L else []) a c := by
  cases B1 with
  | false =>
    go_enter Try.func9, Try.ntmps9
    go_wp2_with (first
      | (go_at_call 30; with_reducible refine H1.out.mono ?_; rintro e w1 ⟨rfl, hb⟩; have HB1 := Lib.hid hb; clear hb)
      | (go_at_call 30; with_reducible refine (H2.out _ HB1.out).mono ?_; rintro e w2 ⟨rfl, hb⟩; have HB2 := Lib.hid (gNx HB1.out hb); clear hb)
      | (go_at_call 31; refine (H3.out _ HB2.out (by trivial) (by trivial)).mono ?_; rintro e w3 ⟨hb, a3, c3, rfl, hs3⟩; have HB3 := Lib.hid (And.intro (gNx HB2.out hb) hs3); clear hb hs3))
    refine bodyPost_ret (v := .tuple #[.slice none 0 0, .int .i64 1]) (by simp [results, Try.results9, go_sem]) rfl ?_
    exact ⟨HB1.out, none, 0, rfl, Sl.nil _⟩
  | true =>
    cases B2 with
    | false =>
      go_enter Try.func9, Try.ntmps9
      go_wp2_with (first
      | (go_at_call 30; with_reducible refine H1.out.mono ?_; rintro e w1 ⟨rfl, hb⟩; have HB1 := Lib.hid hb; clear hb)
      | (go_at_call 30; with_reducible refine (H2.out _ HB1.out).mono ?_; rintro e w2 ⟨rfl, hb⟩; have HB2 := Lib.hid (gNx HB1.out hb); clear hb)
      | (go_at_call 31; refine (H3.out _ HB2.out (by trivial) (by trivial)).mono ?_; rintro e w3 ⟨hb, a3, c3, rfl, hs3⟩; have HB3 := Lib.hid (And.intro (gNx HB2.out hb) hs3); clear hb hs3))
      refine bodyPost_ret (v := .tuple #[.slice none 0 0, .int .i64 1]) (by simp [results, Try.results9, go_sem]) rfl ?_
      exact ⟨HB2.out, none, 0, rfl, Sl.nil _⟩
    | true =>
      go_enter Try.func9, Try.ntmps9
      go_wp2_with (first
      | (go_at_call 30; with_reducible refine H1.out.mono ?_; rintro e w1 ⟨rfl, hb⟩; have HB1 := Lib.hid hb; clear hb)
      | (go_at_call 30; with_reducible refine (H2.out _ HB1.out).mono ?_; rintro e w2 ⟨rfl, hb⟩; have HB2 := Lib.hid (gNx HB1.out hb); clear hb)
      | (go_at_call 31; refine (H3.out _ HB2.out (by trivial) (by trivial)).mono ?_; rintro e w3 ⟨hb, a3, c3, rfl, hs3⟩; have HB3 := Lib.hid (And.intro (gNx HB2.out hb) hs3); clear hb hs3))
      refine bodyPost_ret (v := .tuple #[.slice a3 L.length c3, .int .i64 0]) (by simp [results, Try.results9, go_sem]) rfl ?_
      exact ⟨HB3.out.1, a3, c3, rfl, HB3.out.2⟩
theorem merge_core (aa ab : Option Addr) (na nb ca cb : Nat) (w : World) (B1 B2 : Bool) (L : List Nw)
    (H1 : Hid (Calls Try.prog 30 #[.slice aa na ca] w fun e w' => e = .returned (.bool B1) ∧ Below w.heap.size w w'))
    (H2 : Hid (∀ V, Below w.heap.size w V → Calls Try.prog 33 #[.slice ab nb cb] V fun e w' => e = .returned (.bool B2) ∧ Below V.heap.size V w'))
    (H3 : Hid (∀ V, Below w.heap.size w V → B1 = true → B2 = true → Calls Try.prog 34 #[.slice aa na ca, .slice ab nb cb] V fun e w' => Below V.heap.size V w' ∧ ∃ a c, e = .returned (.slice a L.length c) ∧ Sl w' L a c)) :
    Calls Try.prog 12 #[.slice aa na ca, .slice ab nb cb] w fun e w' => Below w.heap.size w w' ∧ ∃ a c, e = .returned (.tuple #[.slice a (if B1 && B2 then L else []).length c, .int .i64 (if B1 && B2 then 0 else 1)]) ∧ Sl w' (if B1 && B2 then L else []) a c := by
  cases B1 with
  | false =>
    go_enter Try.func12, Try.ntmps12
    go_wp2_with (first
      | (go_at_call 30; with_reducible refine H1.out.mono ?_; rintro e w1 ⟨rfl, hb⟩; have HB1 := Lib.hid hb; clear hb)
      | (go_at_call 33; with_reducible refine (H2.out _ HB1.out).mono ?_; rintro e w2 ⟨rfl, hb⟩; have HB2 := Lib.hid (gNx HB1.out hb); clear hb)
      | (go_at_call 34; refine (H3.out _ HB2.out (by trivial) (by trivial)).mono ?_; rintro e w3 ⟨hb, a3, c3, rfl, hs3⟩; have HB3 := Lib.hid (And.intro (gNx HB2.out hb) hs3); clear hb hs3))
    refine bodyPost_ret (v := .tuple #[.slice none 0 0, .int .i64 1]) (by simp [results, Try.results12, go_sem]) rfl ?_
    exact ⟨HB1.out, none, 0, rfl, Sl.nil _⟩
  | true =>
    cases B2 with
    | false =>
      go_enter Try.func12, Try.ntmps12
      go_wp2_with (first
      | (go_at_call 30; with_reducible refine H1.out.mono ?_; rintro e w1 ⟨rfl, hb⟩; have HB1 := Lib.hid hb; clear hb)
      | (go_at_call 33; with_reducible refine (H2.out _ HB1.out).mono ?_; rintro e w2 ⟨rfl, hb⟩; have HB2 := Lib.hid (gNx HB1.out hb); clear hb)
      | (go_at_call 34; refine (H3.out _ HB2.out (by trivial) (by trivial)).mono ?_; rintro e w3 ⟨hb, a3, c3, rfl, hs3⟩; have HB3 := Lib.hid (And.intro (gNx HB2.out hb) hs3); clear hb hs3))
      refine bodyPost_ret (v := .tuple #[.slice none 0 0, .int .i64 1]) (by simp [results, Try.results12, go_sem]) rfl ?_
      exact ⟨HB2.out, none, 0, rfl, Sl.nil _⟩
    | true =>
      go_enter Try.func12, Try.ntmps12
      go_wp2_with (first
      | (go_at_call 30; with_reducible refine H1.out.mono ?_; rintro e w1 ⟨rfl, hb⟩; have HB1 := Lib.hid hb; clear hb)
      | (go_at_call 33; with_reducible refine (H2.out _ HB1.out).mono ?_; rintro e w2 ⟨rfl, hb⟩; have HB2 := Lib.hid (gNx HB1.out hb); clear hb)
      | (go_at_call 34; refine (H3.out _ HB2.out (by trivial) (by trivial)).mono ?_; rintro e w3 ⟨hb, a3, c3, rfl, hs3⟩; have HB3 := Lib.hid (And.intro (gNx HB2.out hb) hs3); clear hb hs3))
      refine bodyPost_ret (v := .tuple #[.slice a3 L.length c3, .int .i64 0]) (by simp [results, Try.results12, go_sem]) rfl ?_
      exact ⟨HB3.out.1, a3, c3, rfl, HB3.out.2⟩
/-- What Diff and Merge tell. -/
def diffE (a b : List Nw) : List Nw × Int := if listB a && listB b then (diffL a b, 0) else ([], 1)
def mergE (a b : List Nw) : List Nw × Int := if listB a && orderB b then (mrg a b, 0) else ([], 1)
def LRet (w : World) (x : List Nw × Int) (e : Ending) (w' : World) : Prop := Below w.heap.size w w' ∧ ∃ a c, e = .returned (.tuple #[.slice a x.1.length c, .int .i64 x.2]) ∧ Sl w' x.1 a c
theorem order_len {l : List Nw} (h : orderB l = true) : l.length ≤ 4294967294 := by
  obtain ⟨h1, h2⟩ := order_rise h
  exact rise_len h1 h2
theorem list_order {l : List Nw} (h : listB l = true) : orderB l = true := by
  unfold listB at h
  rw [Bool.and_eq_true] at h
  exact h.1
theorem dDiffE_any (la lb : List Nw) (aa ab : Option Addr) (ca cb : Nat) (w : World) (ha : Sl w la aa ca) (hb : Sl w lb ab cb) (wA : ∀ x ∈ la, x.Fit) (wB : ∀ x ∈ lb, x.Fit) :
    Calls Try.prog 9 #[.slice aa la.length ca, .slice ab lb.length cb] w fun e w' => LRet w (diffE la lb) e w' := by
  have h := diff_core aa ab la.length lb.length ca cb w (listB la) (listB lb) (diffL la lb) (by rw [IntKind.wrap_i64]; have := ha.len; have := hb.len; omega) (Lib.hid (dList_any la aa ca w ha wA)) (Lib.hid (fun V hV => dList_any lb ab cb V (hb.below hV) wB)) (Lib.hid (fun V hV h1 h2 => by
    have hl1 := order_len (list_order h1)
    have hl2 := order_len (list_order h2)
    have := dDiff_any la lb aa ab ca cb (la.length + lb.length) V (ha.below hV) (hb.below hV) (order_ls (list_order h1)) (order_ls (list_order h2)) wA wB ⟨hl1, hl2⟩
    rw [List.take_of_length_le (diff_le la lb)] at this
    exact this))
  refine h.mono ?_
  rintro e w' ⟨h1, a, c, rfl, h2⟩
  unfold LRet diffE
  cases hB : (listB la && listB lb) with
  | true => rw [hB] at h2; exact ⟨h1, a, c, rfl, h2⟩
  | false => rw [hB] at h2; exact ⟨h1, a, c, rfl, h2⟩
theorem dMergeE_any (la lb : List Nw) (aa ab : Option Addr) (ca cb : Nat) (w : World) (ha : Sl w la aa ca) (hb : Sl w lb ab cb) (wA : ∀ x ∈ la, x.Fit) (wB : ∀ x ∈ lb, x.Fit) :
    Calls Try.prog 12 #[.slice aa la.length ca, .slice ab lb.length cb] w fun e w' => LRet w (mergE la lb) e w' := by
  have h := merge_core aa ab la.length lb.length ca cb w (listB la) (orderB lb) (mrg la lb) (Lib.hid (dList_any la aa ca w ha wA)) (Lib.hid (fun V hV => dNews_any lb ab cb V (hb.below hV) wB)) (Lib.hid (fun V hV h1 h2 => by
    have hl1 := order_len (list_order h1)
    have hl2 := order_len h2
    have := dMerge_any la lb aa ab ca cb V (ha.below hV) (hb.below hV) (order_ls (list_order h1)) (order_ls h2) wA wB ⟨hl1, hl2⟩
    rw [merg_eq (order_ls (list_order h1)) (order_ls h2)] at this
    exact this))
  refine h.mono ?_
  rintro e w' ⟨h1, a, c, rfl, h2⟩
  unfold LRet mergE
  cases hB : (listB la && orderB lb) with
  | true => rw [hB] at h2; exact ⟨h1, a, c, rfl, h2⟩
  | false => rw [hB] at h2; exact ⟨h1, a, c, rfl, h2⟩
theorem settled_core (sq age : Int) (flying B : Bool) (aa ab : Option Addr) (na ca : Nat) (sa : Option Addr) (ns cs nb cb : Nat) (w : World) (HS : Hid (∀ V, Below w.heap.size w V → Calls Try.prog 42 #[.slice aa na ca, .slice ab nb cb] V fun e w' => e = .returned (.bool B) ∧ Below V.heap.size V w')) :
    Calls Try.prog 25 #[.agg #[.int .u64 sq, .slice aa na ca, .slice sa ns cs, .bool flying, .int .i64 age], .slice ab nb cb] w fun e w' => e = .returned (.bool (!flying && B)) ∧ Below w.heap.size w w' := by
  cases flying
  all_goals
    go_enter Try.func25, Try.ntmps25
    go_wp2_with (go_at_call 42; refine (HS.out _ (gAl _ _)).mono ?_; rintro e w1 ⟨rfl, hb⟩; have HB1 := Lib.hid (gNx (gAl w _) hb); clear hb)
    go_ret
    exact ⟨by simp, by first | exact HB1.out | exact gAl _ _⟩
theorem dSettled_any (o : Ou) (now : List Nw) (aa : Option Addr) (ca : Nat) (sa : Option Addr) (cs : Nat) (na : Option Addr) (nc : Nat) (w : World) (h : OuIn w o aa ca sa cs) (hn : Sl w now na nc) :
    Calls Try.prog 25 #[ouV o aa ca sa cs, .slice na now.length nc] w fun e w' => e = .returned (.bool (!o.flying && decide (o.acked = now))) ∧ Below w.heap.size w w' :=
  settled_core _ _ _ _ _ _ _ _ _ _ _ _ _ _ (Lib.hid (fun V hV => dSameL_any o.acked now aa na ca nc V (h.acked.below hV) (hn.below hV)))
theorem take_core (s l : Int) (hs : 0 ≤ s ∧ s < 18446744073709551616) (hl : 0 ≤ l ∧ l < 18446744073709551616) (w : World) :
    Calls Try.prog 27 #[.agg #[.int .u64 l], .int .u64 s] w fun e w' => e = .returned (.tuple #[.agg #[.int .u64 (if l < s ∧ s - l = 1 then s else l)], .bool (decide (l < s ∧ s - l = 1)), .bool (decide ((l < s ∧ s - l = 1) ∨ (1 ≤ s ∧ s ≤ l)))]) ∧ Below w.heap.size w w' := by
  have hwr : l < s → IntKind.u64.wrap (s - l) = s - l := fun h => by rw [IntKind.wrap_u64]; omega
  by_cases h1 : l < s
  · obtain ⟨d, hd⟩ : ∃ d, d = s - l := ⟨_, rfl⟩
    have hw : IntKind.u64.wrap (s - l) = d := (hwr h1).trans hd.symm
    clear hwr
    by_cases h2 : s - l = 1
    · rw [if_pos ⟨h1, h2⟩, decide_eq_true (show l < s ∧ s - l = 1 from ⟨h1, h2⟩), decide_eq_true (Or.inl ⟨h1, h2⟩)]
      have h3 : (d == 1) = true := by simp [hd, h2]
      clear h2 hd hs hl
      go_enter Try.func27, Try.ntmps27
      go_wp2_with fail
      refine bodyPost_ret (v := .tuple #[.agg #[.int .u64 s], .bool true, .bool true]) (by simp [results, Try.results27, go_sem]) rfl ?_
      exact ⟨rfl, gNx (gAl w _) (gAl _ _)⟩
    · have hn : ¬ (l < s ∧ s - l = 1) := fun h => h2 h.2
      rw [if_neg hn, decide_eq_false hn, decide_eq_false (show ¬ ((l < s ∧ s - l = 1) ∨ (1 ≤ s ∧ s ≤ l)) by omega)]
      have h3 : (d == 1) = false := by simp [hd, h2]
      have h4 : 1 ≤ s := by omega
      have h5 : ¬ s ≤ l := by omega
      clear h2 hn hd hs hl
      go_enter Try.func27, Try.ntmps27
      go_wp2_with fail
      refine bodyPost_ret (v := .tuple #[.agg #[.int .u64 l], .bool false, .bool false]) (by simp [results, Try.results27, go_sem]) rfl ?_
      exact ⟨rfl, gNx (gAl w _) (gAl _ _)⟩
  · have hn : ¬ (l < s ∧ s - l = 1) := fun h => h1 h.1
    rw [if_neg hn, decide_eq_false hn]
    clear hwr
    by_cases h2 : 1 ≤ s
    · rw [decide_eq_true (show (l < s ∧ s - l = 1) ∨ (1 ≤ s ∧ s ≤ l) by omega)]
      have h5 : s ≤ l := by omega
      clear hn h1 hs hl
      go_enter Try.func27, Try.ntmps27
      go_wp2_with fail
      refine bodyPost_ret (v := .tuple #[.agg #[.int .u64 l], .bool false, .bool true]) (by simp [results, Try.results27, go_sem]) rfl ?_
      exact ⟨rfl, gNx (gAl w _) (gAl _ _)⟩
    · rw [decide_eq_false (show ¬ ((l < s ∧ s - l = 1) ∨ (1 ≤ s ∧ s ≤ l)) by omega)]
      have h5 : s ≤ l := by omega
      have h6 : s < 1 := by omega
      clear hn h1 h2 hs hl
      go_enter Try.func27, Try.ntmps27
      go_wp2_with fail
      refine bodyPost_ret (v := .tuple #[.agg #[.int .u64 l], .bool false, .bool false]) (by simp [results, Try.results27, go_sem]) rfl ?_
      exact ⟨rfl, gNx (gAl w _) (gAl _ _)⟩
end Go.Proofs.Ytfnmfmelcghjbaa
