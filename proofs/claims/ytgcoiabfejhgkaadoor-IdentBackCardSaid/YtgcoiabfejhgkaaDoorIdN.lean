/- The laws on texts. -/
import Derived.Test.YtgcoiabfejhgkaaDoorIdM
namespace Go.Proofs.YtgcoiabfejhgkaaDoor
open Go.RowKit Go.Lib Go.Iq Go.Sort
set_option linter.unusedVariables false

/-- Text's answer and its error. -/
def textS (n : Int) : ByteArray := if idB n = true then ⟨(textL n.toNat).toArray⟩ else ⟨#[]⟩
theorem text_both (n : Int) (w : World) (ht : Tab w) : Calls Tryd.prog 15 #[.int .i64 n] w fun e w' => e = .returned (.tuple #[.string (textS n), .int .i64 (idE n)]) ∧ Below w.heap.size w w' := by
  cases hi : idB n
  · refine (text_no n w hi).mono ?_
    rintro e w' ⟨rfl, rfl⟩
    exact ⟨by unfold textS; rw [hi, idE_no hi]; rfl, Below.refl _ _⟩
  · refine (text_any n w hi ht).mono ?_
    rintro e w' ⟨rfl, hb⟩
    exact ⟨by unfold textS; rw [hi, idE_yes hi]; rfl, hb⟩
theorem reftext_both (n : Int) (w : World) : Calls Tryd.prog 16 #[.int .i64 n] w fun e w' => e = .returned (.tuple #[.string (textS n), .int .i64 (idE n)]) ∧ Below w.heap.size w w' := by
  cases hi : idB n
  · refine (reftext_no n w hi).mono ?_
    rintro e w' ⟨rfl, rfl⟩
    exact ⟨by unfold textS; rw [hi, idE_no hi]; rfl, Below.refl _ _⟩
  · refine (reftext_any n w hi).mono ?_
    rintro e w' ⟨rfl, hb⟩
    exact ⟨by unfold textS; rw [hi, idE_yes hi]; rfl, hb⟩

set_option maxHeartbeats 1000000 in
set_option maxRecDepth 100000 in
theorem law_texts (n : Int) (s : ByteArray) (W : World) (_ : (Lit.int .i64 n).wf = true) (_ : s.size ≤ maxLen) (hs0 : s.size ≤ 140737488351232) (htab : Tab W) :
    Calls Tryd.prog 4 #[.int .i64 n, .string s] W fun e w' => e = .returned (.bool true) ∧ Below W.heap.size W w' := by
  have H1 := Lib.hid (text_both n W htab)
  have H2 := Lib.hid (fun w => reftext_both n w)
  have H3 := Lib.hid (fun w => parse_any s w)
  have H4 := Lib.hid (fun w => refparse_any s w (by omega))
  clear htab
  generalize textS n = t at *
  generalize idE n = a at *
  generalize parseN s.data.toList = b at *
  generalize parseE s.data.toList = c at *
  have e1 : ((a : Int) == a) = true := by simp
  have e2 : ((b : Int) == b) = true := by simp
  have e3 : ((c : Int) == c) = true := by simp
  go_enter Tryd.func4, Tryd.ntmps4
  go_wp2_with (first | (go_at_call 15; refine H1.out.mono ?_; rintro e w1 ⟨rfl, hb1⟩) | (go_at_call 16; refine (H2.out _).mono ?_; rintro e w2 ⟨rfl, hb2⟩) | (go_at_call 17; refine (H3.out _).mono ?_; rintro e w' ⟨rfl, rfl⟩) | (go_at_call 18; refine (H4.out _).mono ?_; rintro e w' ⟨rfl, rfl⟩) | (go_at_call 14; refine (awake_any _).mono ?_; rintro e w3 ⟨rfl, hb3⟩))
  go_ret
  exact ⟨rfl, below_next (below_next hb1 hb2) hb3⟩

/-- The second half: whatever text. -/
theorem size_ofList (l : List UInt8) : (⟨l.toArray⟩ : ByteArray).size = l.length := by simp [ByteArray.size]
set_option maxHeartbeats 1000000 in
set_option maxRecDepth 100000 in
theorem law_back (n : Int) (s : ByteArray) (W : World) (_ : (Lit.int .i64 n).wf = true) (_ : s.size ≤ maxLen) (hs0 : s.size ≤ 140737488351232) (htab : Tab W) :
    Calls Tryd.prog 9 #[.int .i64 n, .string s] W fun e w' => e = .returned (.bool true) ∧ Below W.heap.size W w' := by
  have HTab := Lib.hid htab
  have H1 := Lib.hid (text_both n W htab)
  have H3 := Lib.hid (fun s w => parse_any s w)
  have HB : Hid (parseB s.data.toList = true → ∀ w, Tab w → Calls Tryd.prog 15 #[.int .i64 (parseN s.data.toList)] w fun e w' => e = .returned (.tuple #[.string s, .int .i64 0]) ∧ Below w.heap.size w w') := Lib.hid (fun h w ht => by
    obtain ⟨h1, h2, h3⟩ := text_parse h
    have h4 := (parse_ok h).1
    have hi : idB (parseN s.data.toList) = true := idB_iff.2 (by omega)
    have h5 := text_any _ w hi ht
    rw [h4, Int.toNat_natCast, h1] at h5
    rw [h4]
    exact h5)
  clear htab
  cases hi : idB n
  · have HE := Lib.hid (idE_no hi)
    clear hi
    generalize textS n = t at *
    cases hp : parseB s.data.toList
    · have HP := Lib.hid (parse_no hp)
      clear HB hp
      have h3 := H3.out s
      rw [HP.out.1, HP.out.2] at h3
      have H3' := Lib.hid h3
      clear h3
      go_enter Tryd.func9, Tryd.ntmps9
      go_wp2_with (first | (go_at_call 15; refine H1.out.mono ?_; rintro e w1 ⟨rfl, hb1⟩; rw [HE.out]) | (go_at_call 17; refine (H3'.out _).mono ?_; rintro e w' ⟨rfl, rfl⟩) | (go_at_call 14; refine (awake_any _).mono ?_; rintro e w3 ⟨rfl, hb3⟩))
      go_ret
      exact ⟨rfl, below_next hb1 hb3⟩
    · have HP := Lib.hid (parse_ok hp)
      have HB' := Lib.hid (HB.out hp)
      clear HB hp
      have h3 := H3.out s
      rw [HP.out.2] at h3
      have H3' := Lib.hid h3
      clear h3
      generalize parseN s.data.toList = m at *
      go_enter Tryd.func9, Tryd.ntmps9
      go_wp2_with fail
      refine H1.out.mono ?_
      rintro e w1 ⟨rfl, hb1⟩
      rw [HE.out]
      go_wp2_with fail
      refine (H3'.out _).mono ?_
      rintro e w' ⟨rfl, rfl⟩
      go_wp2_with fail
      refine (HB'.out _ (tab_below HTab.out hb1)).mono ?_
      rintro e w2 ⟨rfl, hb2⟩
      go_wp2_with (go_at_call 14; refine (awake_any _).mono ?_; rintro e w3 ⟨rfl, hb3⟩)
      go_ret
      exact ⟨rfl, below_next (below_next hb1 hb2) hb3⟩
  · have HE := Lib.hid (idE_yes hi)
    have hI := idB_iff.1 hi
    obtain ⟨u, rfl⟩ := Int.eq_ofNat_of_zero_le (show 0 ≤ n by omega)
    obtain ⟨g1, g2⟩ := parse_text u (by omega) (by omega)
    have HT : Hid (textS (u : Int) = ⟨(textL u).toArray⟩) := Lib.hid (by unfold textS; rw [hi, if_pos rfl, Int.toNat_natCast])
    have h5 := H3.out ⟨(textL u).toArray⟩
    rw [show (⟨(textL u).toArray⟩ : ByteArray).data.toList = textL u by simp, g2, (parse_ok g1).2] at h5
    have H5 := Lib.hid h5
    have hee : ((u : Int) != u) = false := by simp
    clear hi h5 g1 g2
    cases hp : parseB s.data.toList
    · have HP := Lib.hid (parse_no hp)
      clear HB hp
      have h3 := H3.out s
      rw [HP.out.1, HP.out.2] at h3
      have H3' := Lib.hid h3
      clear h3
      go_enter Tryd.func9, Tryd.ntmps9
      go_wp2_with fail
      refine H1.out.mono ?_
      rintro e w1 ⟨rfl, hb1⟩
      rw [HE.out, HT.out]
      generalize (⟨(textL u).toArray⟩ : ByteArray) = t at *
      go_wp2_with fail
      refine (H5.out _).mono ?_
      rintro e w' ⟨rfl, rfl⟩
      go_wp2_with fail
      refine (H3'.out _).mono ?_
      rintro e w' ⟨rfl, rfl⟩
      go_wp2_with (go_at_call 14; refine (awake_any _).mono ?_; rintro e w3 ⟨rfl, hb3⟩)
      go_ret
      exact ⟨rfl, below_next hb1 hb3⟩
    · have HP := Lib.hid (parse_ok hp)
      have HB' := Lib.hid (HB.out hp)
      clear HB hp
      have h3 := H3.out s
      rw [HP.out.2] at h3
      have H3' := Lib.hid h3
      clear h3
      generalize parseN s.data.toList = m at *
      go_enter Tryd.func9, Tryd.ntmps9
      go_wp2_with fail
      refine H1.out.mono ?_
      rintro e w1 ⟨rfl, hb1⟩
      rw [HE.out, HT.out]
      generalize (⟨(textL u).toArray⟩ : ByteArray) = t at *
      go_wp2_with fail
      refine (H5.out _).mono ?_
      rintro e w' ⟨rfl, rfl⟩
      go_wp2_with fail
      refine (H3'.out _).mono ?_
      rintro e w' ⟨rfl, rfl⟩
      go_wp2_with fail
      refine (HB'.out _ (tab_below HTab.out hb1)).mono ?_
      rintro e w2 ⟨rfl, hb2⟩
      go_wp2_with (go_at_call 14; refine (awake_any _).mono ?_; rintro e w3 ⟨rfl, hb3⟩)
      go_ret
      exact ⟨rfl, below_next (below_next hb1 hb2) hb3⟩
end Go.Proofs.YtgcoiabfejhgkaaDoor
