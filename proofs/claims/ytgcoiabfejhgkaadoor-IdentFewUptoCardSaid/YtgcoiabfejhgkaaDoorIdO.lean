/- The law on few names that move. -/
import Derived.Test.YtgcoiabfejhgkaaDoorIdG
import Derived.Test.YtgcoiabfejhgkaaDoorIqP
namespace Go.Proofs.YtgcoiabfejhgkaaDoor
open Go.RowKit Go.Lib Go.Iq
set_option linter.unusedVariables false

theorem own_ints' {w : World} {base : Nat} {e : TypeId} {a : Option Addr} {n cap : Nat} {zs : List Int} (h : w.ownsRow base e 1 (.slice a n cap) n (zs.map (Value.int .i64))) : IsInts w a n zs ∧ (a = none → cap = 0) := by
  obtain ⟨x, y, e, _, hi⟩ := ints_of_own h; cases e
  refine ⟨hi, fun ha => ?_⟩
  subst ha
  rcases h.2 with ⟨h1, _⟩ | ⟨g, c, cur, h1, _⟩
  · cases h1; rfl
  · cases h1
/-- Few move. -/
theorem few (l : List UInt8) (zs ys : List Int) (h1 : drawE l zs = 0) (h2 : drawE l (zs ++ ys) = 0) : drawN l zs = drawN l (zs ++ ys) ∨ inB ys (drawN l (zs ++ ys)) = true := by
  rw [drawN_ok h1, drawN_ok h2]
  rcases bestOf_append (sumI l) zs ys (by intro e; have := (drawE_zero h1).2.2.2; rw [e] at this; exact this rfl) with h | h
  · exact .inl h.symm
  · exact .inr (by unfold inB; simpa using h)

set_option maxHeartbeats 2000000 in
set_option maxRecDepth 100000 in
theorem few_walk (a1 : Option Addr) (n1 c1 : Nat) (zs : List Int) (a2 : Option Addr) (n2 c2 : Nat) (ys : List Int) (s : ByteArray) (W : World) (hI1 : IsInts W a1 n1 zs) (hc1 : a1 = none → c1 = 0) (hI2 : IsInts W a2 n2 ys) (hc2 : a2 = none → c2 = 0)
    (hl : n1 + n2 ≤ 17592186044416) (hs : s.size ≤ 9223372036854775807) :
    Calls Tryd.prog 7 #[.slice a1 n1 c1, .slice a2 n2 c2, .string s] W fun e w' => e = .returned (.bool true) ∧ Below W.heap.size W w' := by
  obtain ⟨i0, hi, hz0, hz1, hz2⟩ := info_parts infoInt
  have HI1 := Lib.hid hI1
  have HI2 := Lib.hid hI2
  have HC := Lib.hid (fun w (h : IsInts w a1 n1 zs) => copied_any a1 n1 c1 zs w h hc1 (by omega))
  have HCa := Lib.hid (fun a c w (h : IsInts w a (n1 + n2) (zs ++ ys)) (h2 : a = none → c = 0) => copied_any a (n1 + n2) c (zs ++ ys) w h h2 (by omega))
  have HD := Lib.hid (fun a c w (h : IsInts w a n1 zs) => draw_any a n1 c zs s w h (by omega) hs)
  have HDa := Lib.hid (fun a c w (h : IsInts w a (n1 + n2) (zs ++ ys)) => draw_any a (n1 + n2) c (zs ++ ys) s w h (by omega) hs)
  have HR := Lib.hid (fun w (h : IsInts w a1 n1 zs) => refdraw_any a1 n1 c1 zs s w h (by omega) hs)
  have HRa := Lib.hid (fun a c w (h : IsInts w a (n1 + n2) (zs ++ ys)) => refdraw_any a (n1 + n2) c (zs ++ ys) s w h (by omega) hs)
  have HN := Lib.hid (fun w (h : IsInts w a2 n2 ys) => in_any a2 n2 c2 ys (drawN s.data.toList (zs ++ ys)) w h (by omega))
  have HF := Lib.hid (few s.data.toList zs ys)
  have H63 : Hid (0 + n1 ≤ maxLen) := Lib.hid (by unfold maxLen; omega)
  have H47 : Hid ((0 + n1) * 8 ≤ 140737488355328) := Lib.hid (by omega)
  have G63 : Hid (n1 + n2 ≤ maxLen) := Lib.hid (by unfold maxLen; omega)
  have G47 : Hid ((n1 + n2) * 8 ≤ 140737488355328) := Lib.hid (by omega)
  have HC1 := Lib.hid hc1
  have HC2 := Lib.hid hc2
  clear hI1 hI2 hc1 hc2
  generalize drawN s.data.toList zs = d1 at *
  generalize drawE s.data.toList zs = e1 at *
  generalize drawN s.data.toList (zs ++ ys) = d2 at *
  generalize drawE s.data.toList (zs ++ ys) = e2 at *
  generalize inB ys d2 = ib at *
  have q1 : ((e1 : Int) == e1) = true := by simp
  have q2 : ((e2 : Int) == e2) = true := by simp
  go_enter Tryd.func7, Tryd.ntmps7
  go_wp2_with (first | (at_builtin; refine wpList_append_ints _ rfl (.tmp 16) (.tmp 17) 37 rfl W.heap.size 3 i0 Tryd.underlying37 hi hz0 hz1 hz2 _ 0 [] rfl (World.ownsRow_nil _ _ _ _) a1 n1 c1 zs rfl HI1.out HC1.out H63.out H47.out (Nat.le_refl _) ?_; intro v1 w1 hown hg; have HO1 := Lib.hid hown; have HG1 := Lib.hid hg; have HB1 : Hid (Below W.heap.size W w1) := Lib.hid ((Below.refl _ _).grown hg (Nat.le_refl _) (fun k hk => by cases hk)); clear hown hg; rw [Nat.zero_add, List.nil_append] at HO1) | (at_builtin; refine wpList_append_ints _ rfl (.tmp 19) (.tmp 20) 37 rfl W.heap.size 3 i0 Tryd.underlying37 hi hz0 hz1 hz2 _ n1 zs rfl HO1.out a2 n2 c2 ys rfl (HI2.out.below HB1.out) HC2.out G63.out G47.out HB1.out.size ?_; intro v2 w2 hown hg; have HO2 := Lib.hid hown; have HG2 := Lib.hid hg; clear hown hg))
  have HB2 : Hid (Below W.heap.size W w2) := Lib.hid (HB1.out.grown HG2.out HB1.out.size (fun k hk => (HO1.out.lt k hk).1))
  obtain ⟨a3, c3, rfl⟩ : ∃ a3 c3, v2 = .slice a3 (n1 + n2) c3 := by
    obtain ⟨x, y, e, _, _⟩ := ints_of_own HO2.out; exact ⟨x, y, e⟩
  have HI3 := Lib.hid (own_ints' HO2.out)
  clear HO1 HO2 HG1 HG2 HB1
  refine (HC.out _ (HI1.out.below HB2.out)).mono ?_
  rintro e w3 ⟨a4, c4, rfl, hown, hb⟩
  have HI4 := Lib.hid (own_ints' hown).1
  have HI3b := Lib.hid (HI3.out.1.below hb)
  have HN3 := Lib.hid HI3.out.2
  have HB3 := Lib.hid (below_next HB2.out hb)
  clear hown hb HI3 HB2
  go_wp2_with fail
  refine (HD.out _ _ _ HI4.out).mono ?_
  rintro e w4 ⟨rfl, hb⟩
  have HI5 := Lib.hid (HI3b.out.below hb)
  have HB4 := Lib.hid (below_next HB3.out hb)
  clear hb HI3b HB3 HI4
  go_wp2_with fail
  refine (HCa.out _ _ _ HI5.out HN3.out).mono ?_
  rintro e w5 ⟨a6, c6, rfl, hown, hb⟩
  have HI6 := Lib.hid (own_ints' hown).1
  have HI7 := Lib.hid (HI5.out.below hb)
  have HB5 := Lib.hid (below_next HB4.out hb)
  clear hown hb HI5 HB4
  go_wp2_with fail
  refine (HDa.out _ _ _ HI6.out).mono ?_
  rintro e w6 ⟨rfl, hb⟩
  have HI8 := Lib.hid (HI7.out.below hb)
  have HB6 := Lib.hid (below_next HB5.out hb)
  clear hb HI7 HB5 HI6
  by_cases g1 : e1 = 0
  · by_cases g2 : e2 = 0
    · have hf := HF.out g1 g2
      subst g1 g2
      have HI2' := Lib.hid (HI2.out.below HB6.out)
      by_cases g3 : d1 = d2
      · subst g3
        have q3 : ((d1 : Int) == d1) = true := by simp
        cases ib
        · go_wp2_with (first | (go_at_call 31; refine (HN.out _ HI2'.out).mono ?_; rintro e w' ⟨rfl, rfl⟩) | (go_at_call 14; refine (awake_any _).mono ?_; rintro e w7 ⟨rfl, hb⟩))
          all_goals (go_ret; exact ⟨rfl, below_next HB6.out (by assumption)⟩)
        · go_wp2_with (first | (go_at_call 31; refine (HN.out _ HI2'.out).mono ?_; rintro e w' ⟨rfl, rfl⟩) | (go_at_call 14; refine (awake_any _).mono ?_; rintro e w7 ⟨rfl, hb⟩))
          all_goals (go_ret; exact ⟨rfl, below_next HB6.out (by assumption)⟩)
      · have hib : ib = true := hf.resolve_left g3
        subst hib
        have q3 : ((d1 : Int) == d2) = false := by simpa using g3
        clear hf g3
        go_wp2_with (first | (go_at_call 31; refine (HN.out _ HI2'.out).mono ?_; rintro e w' ⟨rfl, rfl⟩) | (go_at_call 14; refine (awake_any _).mono ?_; rintro e w7 ⟨rfl, hb⟩))
        all_goals (go_ret; exact ⟨rfl, below_next HB6.out (by assumption)⟩)
    · subst g1
      have hne : ((e2 : Int) != 0) = true := by simpa using g2
      clear g2 HF
      go_wp2_with fail
      refine (HR.out _ (HI1.out.below HB6.out)).mono ?_
      rintro e w7 ⟨rfl, hb⟩
      have HI9 := Lib.hid (HI8.out.below hb)
      have HB7 := Lib.hid (below_next HB6.out hb)
      clear hb
      go_wp2_with fail
      refine (HRa.out _ _ _ HI9.out).mono ?_
      rintro e w8 ⟨rfl, hb⟩
      have HB8 := Lib.hid (below_next HB7.out hb)
      clear hb
      go_wp2_with (go_at_call 14; refine (awake_any _).mono ?_; rintro e w9 ⟨rfl, hb⟩)
      go_ret
      exact ⟨rfl, below_next HB8.out hb⟩
  · have hne : ((e1 : Int) != 0) = true := by simpa using g1
    clear g1 HF
    go_wp2_with fail
    refine (HR.out _ (HI1.out.below HB6.out)).mono ?_
    rintro e w7 ⟨rfl, hb⟩
    have HI9 := Lib.hid (HI8.out.below hb)
    have HB7 := Lib.hid (below_next HB6.out hb)
    clear hb
    go_wp2_with fail
    refine (HRa.out _ _ _ HI9.out).mono ?_
    rintro e w8 ⟨rfl, hb⟩
    have HB8 := Lib.hid (below_next HB7.out hb)
    clear hb
    go_wp2_with (go_at_call 14; refine (awake_any _).mono ?_; rintro e w9 ⟨rfl, hb⟩)
    go_ret
    exact ⟨rfl, below_next HB8.out hb⟩

theorem law_few (a1 : Option Addr) (n1 c1 : Nat) (zs : List Int) (a2 : Option Addr) (n2 c2 : Nat) (ys : List Int) (s : ByteArray) (W : World) (w1 : IsInts W a1 n1 zs ∧ (∀ z ∈ zs, (Lit.int .i64 z).wf = true) ∧ (a1 = none → c1 = 0)) (b1 : n1 ≤ 1048576)
    (w2 : IsInts W a2 n2 ys ∧ (∀ z ∈ ys, (Lit.int .i64 z).wf = true) ∧ (a2 = none → c2 = 0)) (b2 : n2 ≤ 1048576) (_ : s.size ≤ maxLen) (b3 : s.size ≤ 1048576) :
    Calls Tryd.prog 7 #[.slice a1 n1 c1, .slice a2 n2 c2, .string s] W fun e w' => e = .returned (.bool true) ∧ Below W.heap.size W w' :=
  few_walk a1 n1 c1 zs a2 n2 c2 ys s W w1.1 w1.2.2 w2.1 w2.2.2 (by omega) (by omega)
end Go.Proofs.YtgcoiabfejhgkaaDoor
