/- The law WireUnlike. -/
import Derived.Test.YtbepipnnhkaemaaDoorWpJ
import Derived.Test.YtbepipnnhkaemaaDoorWrI
namespace Go.Proofs.YtbepipnnhkaemaaDoor
open Go.RowKit Go.Lib Go.Wq
set_option linter.unusedVariables false
set_option linter.unusedSimpArgs false
set_option maxRecDepth 100000

theorem encSays_ok {s : List UInt8} {fs : List Fld} (h : (encSays s fs).2 = 0) : ∃ its, Go.Wq.shape s = some its ∧ encAll its fs = some (encSays s fs).1 ∧ (encSays s fs).1.length ≤ 65536 := by
  cases hx : Go.Wq.shape s with
  | none => unfold encSays at h; simp [hx] at h
  | some its =>
    cases he : encAll its fs with
    | none => unfold encSays at h; simp [hx, he] at h
    | some a =>
      by_cases hb : 65536 < a.length
      · unfold encSays at h; simp [hx, he, hb] at h
      · have e : encSays s fs = (a, 0) := by unfold encSays; simp [hx, he, hb]
        refine ⟨its, rfl, ?_, ?_⟩
        · rw [e]; exact he
        · rw [e]; simpa using hb

theorem law_unlike (s : ByteArray) (fs : List Fld) (fa : Option Addr) (fc : Nat) (gs : List Fld) (ga : Option Addr) (gc : Nat) (W : World) (hm : s.size ≤ maxLen) (hs : s.size ≤ 140737488351232)
    (hfs : FldsIn W W.heap.size fs fa fs.length) (hfine : ∀ y ∈ fs, Fine y) (hr : fs.length * 72 ≤ reachBytes) (hgs : FldsIn W W.heap.size gs ga gs.length) (hgine : ∀ y ∈ gs, Fine y) (hr2 : gs.length * 72 ≤ reachBytes) (hg : Handle W) :
    Calls Tryd.prog 7 #[.string s, .slice fa fs.length fc, .slice ga gs.length gc] W fun e w' => e = .returned (.bool true) ∧ Below W.heap.size W w' := by
  have hR : reachBytes = 140737488351232 := rfl
  have hn : fs.length < 4611686018427387904 := by omega
  have hn2 : gs.length < 4611686018427387904 := by omega
  have C0 := Lib.hid (refLarge_any W.heap.size fs fa fc W hn hfs (fun y hy => (hfine y hy).2.2))
  have C0' := Lib.hid (refLarge_any W.heap.size gs ga gc W hn2 hgs (fun y hy => (hgine y hy).2.2))
  have C1 := Lib.hid (wireEncode_any s (by omega) fs fa fc W hg hfs hfine hn)
  have C2 := Lib.hid (fun w (hb : Below W.heap.size W w) => wireEncode_any s (by omega) gs ga gc w (hg.below hb) ((FldsIn.kept (B := W.heap.size) (fun k hk => hb.block k hk) _ _ _ hgs).kept_up hb.size) hgine hn2)
  have C3 := Lib.hid (fun w (hb : Below W.heap.size W w) => same_says fs gs W.heap.size fa fc ga gc w (FldsIn.kept (B := W.heap.size) (fun k hk => hb.block k hk) _ _ _ hfs) (FldsIn.kept (B := W.heap.size) (fun k hk => hb.block k hk) _ _ _ hgs) hb.size hn hn2 (fun y hy => (hfine y hy).2.2) (fun y hy => (hgine y hy).2.2))
  have HINJ : Hid ((encSays s.data.toList fs).2 = 0 → (encSays s.data.toList gs).2 = 0 → (encSays s.data.toList fs).1 = (encSays s.data.toList gs).1 → fs = gs) := Lib.hid (fun h1 h2 h3 => by
    obtain ⟨its, e1, e2, -⟩ := encSays_ok h1
    obtain ⟨its', e1', e2', -⟩ := encSays_ok h2
    obtain rfl : its = its' := Option.some.inj (e1.symm.trans e1')
    rw [← h3] at e2'
    exact enc_inj (fun x hx => (hfine x hx).1) (fun x hx => (hgine x hx).1) e2 e2')
  have HSAME : Hid (fs = gs → (encSays s.data.toList fs).1 = (encSays s.data.toList gs).1) := Lib.hid (fun h => by rw [h])
  have HG := Lib.hid hg
  generalize (encSays s.data.toList fs).2 = c1 at *
  generalize (encSays s.data.toList gs).2 = c2 at *
  generalize (encSays s.data.toList fs).1 = x1 at *
  generalize (encSays s.data.toList gs).1 = x2 at *
  clear hg hm hs hfs hfine hr hgs hgine hr2
  have AW : Hid (∀ w, Below W.heap.size W w → Calls Tryd.prog 14 #[] w fun e w' => e = .returned (.bool true) ∧ Below W.heap.size W w') := Lib.hid (fun w hb => (awake_any w (HG.out.below hb)).mono (fun e w' h => ⟨h.1, hb.trans (h.2.mono hb.size)⟩))
  go_enter Tryd.func7, Tryd.ntmps7
  go_wp2_with fail
  refine C0.out.mono ?_
  rintro e w0 ⟨⟨lg, rfl⟩, rfl⟩
  cases lg with
  | true =>
    go_wp2_with fail
    refine (AW.out W (Below.refl _ _)).mono ?_
    rintro e w5 ⟨rfl, b5⟩
    go_wp2_with fail
    go_ret
    exact ⟨rfl, b5⟩
  | false =>
    go_wp2_with fail
    refine C0'.out.mono ?_
    rintro e w0 ⟨⟨lg, rfl⟩, rfl⟩
    cases lg with
    | true =>
      go_wp2_with fail
      refine (AW.out W (Below.refl _ _)).mono ?_
      rintro e w5 ⟨rfl, b5⟩
      go_wp2_with fail
      go_ret
      exact ⟨rfl, b5⟩
    | false =>
      go_wp2_with fail
      refine C1.out.mono ?_
      rintro e w1 ⟨rfl, b1⟩
      have B1 := Lib.hid b1
      clear b1
      go_wp2_with fail
      refine (C2.out w1 B1.out).mono ?_
      rintro e w2 ⟨rfl, b2⟩
      have B2 := Lib.hid (B1.out.trans (b2.mono B1.out.size))
      clear b2
      by_cases h1 : c1 = 0
      · subst h1
        by_cases h2 : c2 = 0
        · subst h2
          have hbe : ∀ r : Bool, (r = true ↔ fs = gs) → (x1 == x2) = r := fun r hr => by
            by_cases hx : x1 = x2
            · have := HINJ.out rfl rfl hx
              rw [hr.2 this, hx]; exact beq_self_eq_true _
            · have : r = false := by
                cases r with
                | false => rfl
                | true => exact absurd (HSAME.out (hr.1 rfl)) hx
              rw [this]
              exact beq_eq_false_iff_ne.2 hx
          have HBE := Lib.hid hbe
          clear hbe
          go_wp2_with fail
          refine (C3.out w2 B2.out).mono ?_
          rintro e w3 ⟨⟨r, rfl, hr⟩, b3⟩
          have he := HBE.out r hr
          have B3 := Lib.hid (B2.out.trans (b3.mono B2.out.size))
          clear b3 hr
          go_wp2_with fail
          refine (AW.out w3 B3.out).mono ?_
          rintro e w5 ⟨rfl, b5⟩
          go_wp2_with fail
          go_ret
          exact ⟨rfl, b5⟩
        · have d2 : (c2 != 0) = true := by simp [h2]
          go_wp2_with fail
          refine (AW.out w2 B2.out).mono ?_
          rintro e w5 ⟨rfl, b5⟩
          go_wp2_with fail
          go_ret
          exact ⟨rfl, b5⟩
      · have d1 : (c1 != 0) = true := by simp [h1]
        go_wp2_with fail
        refine (AW.out w2 B2.out).mono ?_
        rintro e w5 ⟨rfl, b5⟩
        go_wp2_with fail
        go_ret
        exact ⟨rfl, b5⟩
end Go.Proofs.YtbepipnnhkaemaaDoor
