/- The program's Encode. The program's Encode, whole. -/
import Derived.Test.YtidfgjgbigedeaaGreatDoorWpF
import Derived.Test.YtidfgjgbigedeaaGreatDoorWpD
import Derived.Test.YtidfgjgbigedeaaGreatDoorWpC
import Derived.Test.YtidfgjgbigedeaaGreatDoorWrA
section
namespace Go.Proofs.YtidfgjgbigedeaaGreatDoor
open Go.RowKit Go.Lib Go.Wq
set_option linter.unusedVariables false
set_option linter.unusedSimpArgs false
set_option maxRecDepth 100000

theorem entEn (args : Array Value) (w : World) : (callFunc 34 args).run Tryz.prog w = .ok (.enter 34 args) w := by kernel_rfl

/-- How Encode's closure ends. -/
def EncEnds (s : List UInt8) (fs : List Fld) (wb : Nat) (w : World) (e : Ending) (w' : World) : Prop :=
  Kept (Ours wb w.heap.size) w w' ∧ ((encSays s fs).2 = 0 ∧ e = .returned (.tuple #[]) ∧ (∃ (v' : Value) (base : Nat), w.heap.size ≤ base ∧ w'.cell? ⟨wb, 0, none⟩ = some v' ∧ w'.ownsRow base 5 1 v' (encSays s fs).1.length (bcs (encSays s fs).1)) ∨
    (encSays s fs).2 ≠ 0 ∧ Dies (encSays s fs).2 0 w e w')

theorem Kept.ours {wb base base' : Nat} {w w' : World} (h : Kept (Ours wb base') w w') (hb : base ≤ base') : Kept (Ours wb base) w w' := h.mono (fun k hk => by rcases hk with h | h; exact Or.inl h; exact Or.inr (by omega))
theorem kept_of_below {wb : Nat} {w w' : World} (h : Below w.heap.size w w') : Kept (Ours wb w.heap.size) w w' := Kept.of_below h

set_option maxHeartbeats 4000000 in
theorem encBody (s : ByteArray) (hs : s.size ≤ 281474976710656) (fs : List Fld) (fa : Option Addr) (fc : Nat) (wb : Nat) (w : World) (a0 a1 : Addr) (ha0 : w.cell? a0 = some (.string s)) (ha1 : w.cell? a1 = some (.slice fa fs.length fc))
    (hA : a0.block ≠ wb ∧ a1.block ≠ wb ∧ a0.block < w.heap.size ∧ a1.block < w.heap.size)
    (hwb : wb < w.heap.size) (hwc : w.cell? ⟨wb, 0, none⟩ = some (.slice none 0 0)) (hwf : w.frozen? ⟨wb, 0, none⟩ = false) (hfs : FldsIn w wb fs fa fs.length) (hfine : ∀ y ∈ fs, Fine y) (hn : fs.length < 4611686018427387904) :
    Calls Tryz.prog 34 #[.pointer (some a0), .pointer (some a1), .pointer (some ⟨wb, 0, none⟩)] w fun e w' => EncEnds s.data.toList fs wb w e w' := by
  have HP := Lib.hid (parse_any s hs w)
  cases hx : Go.Wq.shape s.data.toList with
  | none =>
    have HR : Hid (Calls Tryz.prog 35 #[.string s] w fun e w' => Dies 40 0 w e w' ∧ Below w.heap.size w w') := Lib.hid (HP.out.mono (fun e w' h => by unfold ParseEnds at h; rw [hx] at h; exact h))
    have HE : Hid (encSays s.data.toList fs = ([], 40)) := Lib.hid (by unfold encSays; rw [hx])
    clear HP hx hfs hfine
    go_enter Tryz.func34, Tryz.ntmps34
    go_wp2_with fail
    refine HR.out.mono ?_
    rintro e w3 ⟨⟨pb, rfl, hd1⟩, hb3⟩
    have HD := Lib.hid hd1
    clear hd1
    go_wp2_with fail
    refine ⟨rfl, kept_of_below hb3, Or.inr ?_⟩
    rw [HE.out]
    exact ⟨by decide, pb, rfl, HD.out⟩
  | some its =>
    have HR : Hid (Calls Tryz.prog 35 #[.string s] w fun e w' => ∃ (a : Option Addr) (c : Nat), e = .returned (.slice a its.length c) ∧ ItsZ w' (fun k => w.heap.size ≤ k ∧ k < w'.heap.size) its a its.length ∧ Below w.heap.size w w') := Lib.hid (HP.out.mono (fun e w' h => by unfold ParseEnds at h; rw [hx] at h; exact h))
    obtain ⟨h256, hsm⟩ := shape_sm hx
    have hsz := shape_size hx
    have hES : encSays s.data.toList fs = match encAll its fs with | none => ([], 41) | some a => if 65536 < a.length then ([], 3) else (a, 0) := by unfold encSays; simp only [hx]; cases encAll its fs <;> rfl
    have hlen : ∀ y ∈ fs, y.Len := fun y hy => (hfine y hy).2.2
    have HCHK : Hid (∀ (w2 : World) (xa : Option Addr) (xc : Nat), ItsZ w2 (fun k => w.heap.size ≤ k ∧ k < w2.heap.size) its xa its.length → Below w.heap.size w w2 → Calls Tryz.prog 36 #[.slice xa its.length xc, .slice fa fs.length fc] w2 fun e w' => ChkEnds its fs w2 e w') := Lib.hid (fun w2 xa xc hi hb =>
      checkFields_says its _ xa xc fs fa fc w2 hi (fun k hk => hk.2) ((FldsIn.kept (B := wb) (fun k hk => hb.block k (by omega)) _ _ _ hfs).kept_up (by have := hb.size; omega)) h256 hsm hn hlen)
    have HFLD : Hid (∀ (a : List UInt8) (w2 w3 : World) (xa : Option Addr) (xc : Nat), encAll its fs = some a → ItsZ w2 (fun k => w.heap.size ≤ k ∧ k < w2.heap.size) its xa its.length → Below w.heap.size w w2 → Below w2.heap.size w2 w3 →
        Calls Tryz.prog 37 #[.pointer (some ⟨wb, 0, none⟩), .slice xa its.length xc, .slice fa fs.length fc] w3 fun e w' => FEnd wb w2.heap.size a (.slice none 0 0) w3 e w' ∧ (e = .returned (.tuple #[]) → its = [] ∨ a.length ≤ 65536)) := Lib.hid (fun a w2 w3 xa xc ha hi hb hb3 => by
      have h13 := hb.trans (hb3.mono hb.size)
      have hw2 := hb.size
      have hw3 := hb3.size
      have HW : Wr w3 wb w2.heap.size (.slice none 0 0) [] := ⟨by omega, hw3, (h13.frozen (p := ⟨wb, 0, none⟩) hwb).trans hwf, (h13.cell (p := ⟨wb, 0, none⟩) hwb).trans hwc, World.ownsRow_nil _ _ _ _⟩
      have h := fields_says its wb w2.heap.size (.slice none 0 0) [] (fun k => w.heap.size ≤ k ∧ k < w2.heap.size) xa xc fs fa fc w3 a HW (ItsZ.kept (fun k hk => hb3.block k hk.2) (fun _ h => h) _ _ _ hi) (fun k hk => ⟨hk.2, by omega⟩)
        (FldsIn.kept (B := wb) (fun k hk => h13.block k (by omega)) _ _ _ hfs) h256 hsm (by omega) (by simp; omega) hfine ha
      simpa using h)
    have ha0' : ∀ w2, Below w.heap.size w w2 → w2.cell? a1 = some (.slice fa fs.length fc) := fun w2 h => (h.cell hA.2.2.2).trans ha1
    have HA1 := Lib.hid ha0'
    have hA0 := hA.2.2.1
    clear HP hx hfs hfine hsm ha0' hlen hA
    cases he : encAll its fs with
    | none =>
      have HE : Hid (encSays s.data.toList fs = ([], 41)) := Lib.hid (by rw [hES, he])
      have HNONE := Lib.hid he
      clear hES he HFLD
      go_enter Tryz.func34, Tryz.ntmps34
      go_wp2_with fail
      refine HR.out.mono ?_
      rintro e w2 ⟨xa, xc, rfl, hi2, hb2⟩
      have HC := Lib.hid (HCHK.out w2 xa xc hi2 hb2)
      have c2 := HA1.out w2 hb2
      have hs2 := hb2.size
      have HB2 := Lib.hid hb2
      clear hi2 hb2
      go_wp2_with fail
      refine HC.out.mono ?_
      rintro e w3 ⟨h3, hb3⟩
      rcases h3 with ⟨h4, -⟩ | ⟨-, pb, rfl, hd1⟩
      · rw [HNONE.out] at h4; cases h4
      · have HD := Lib.hid hd1
        have HB3 := Lib.hid hb3
        clear hd1 hb3
        go_wp2_with fail
        refine ⟨rfl, kept_of_below (HB2.out.trans (HB3.out.mono hs2)), Or.inr ?_⟩
        rw [HE.out]
        exact ⟨by decide, pb, rfl, Nat.le_trans hs2 HD.out.1, HD.out.2⟩
    | some a =>
      have HSOME := Lib.hid he
      rw [he] at hES
      simp only [] at hES
      have HES := Lib.hid hES
      clear hES he
      go_enter Tryz.func34, Tryz.ntmps34
      go_wp2_with fail
      refine HR.out.mono ?_
      rintro e w2 ⟨xa, xc, rfl, hi2, hb2⟩
      have HC := Lib.hid (HCHK.out w2 xa xc hi2 hb2)
      have c2 := HA1.out w2 hb2
      have hs2 := hb2.size
      have HB2 := Lib.hid hb2
      have HI2 := Lib.hid hi2
      clear hi2 hb2
      go_wp2_with fail
      refine HC.out.mono ?_
      rintro e w3 ⟨h3, hb3⟩
      rcases h3 with ⟨-, rfl⟩ | ⟨h4, -⟩
      · have HFL := Lib.hid (HFLD.out a w2 w3 xa xc HSOME.out HI2.out HB2.out hb3)
        have c3 := HA1.out w3 (HB2.out.trans (hb3.mono hs2))
        have HB3 := Lib.hid (HB2.out.trans (hb3.mono hs2))
        clear hb3 c2
        go_wp2_with fail
        refine HFL.out.mono ?_
        rintro e w4 ⟨h5, h5b⟩
        rcases h5 with ⟨rfl, v5, hw5, hm5⟩ | ⟨h6, ⟨pb, rfl, h7⟩, h8⟩
        · have HB5 := Lib.hid (h5b rfl)
          have HW5 := Lib.hid hw5
          have hfit : ¬ 65536 < a.length := by
            rcases HB5.out with h | h
            · subst h; rw [encAll_nil HSOME.out]; simp
            · omega
          have HK5 : Hid (Kept (Ours wb w.heap.size) w w4) := Lib.hid ((kept_of_below HB3.out).trans ((hm5.kept (World.ownsRow_nil w3 w.heap.size 5 1))))
          clear hw5 hm5 h5b
          go_wp2_with fail
          first | go_end0 | refine bodyPost_ret (results_none rfl _ _ _) rfl ?_
          refine ⟨HK5.out, Or.inl ?_⟩
          rw [HES.out, if_neg hfit]
          exact ⟨rfl, rfl, v5, w2.heap.size, hs2, HW5.out.cell, HW5.out.own⟩
        · have H7 := Lib.hid h7
          have H8 := Lib.hid h8
          have hs3 := HB3.out.size
          clear h7 h8 h5b
          go_wp2_with fail
          refine ⟨rfl, (kept_of_below HB3.out).trans (H8.out.ours hs2), Or.inr ?_⟩
          rw [HES.out, if_pos h6]
          exact ⟨by decide, pb, rfl, Nat.le_trans hs3 H7.out.1, H7.out.2⟩
      · rw [HSOME.out] at h4; cases h4
end Go.Proofs.YtidfgjgbigedeaaGreatDoor
end

section
namespace Go.Proofs.YtidfgjgbigedeaaGreatDoor
open Go.RowKit Go.Lib Go.Wq
set_option linter.unusedVariables false
set_option linter.unusedSimpArgs false
set_option maxRecDepth 100000

theorem encSays_zero {s : List UInt8} {fs : List Fld} (h : (encSays s fs).2 ≠ 0) : (encSays s fs).1 = [] := by
  unfold encSays at h ⊢
  split
  · rfl
  · split
    · rfl
    · split
      · rfl
      · rename_i h1 _ _ h2 h3
        simp only [h1, h2, if_neg h3] at h
        exact absurd rfl h

set_option maxHeartbeats 4000000 in
theorem wireEncode_any (s : ByteArray) (hs : s.size ≤ 281474976710656) (fs : List Fld) (fa : Option Addr) (fc : Nat) (w : World) (hg : Handle w) (hfs : FldsIn w w.heap.size fs fa fs.length) (hfine : ∀ y ∈ fs, Fine y) (hn : fs.length < 4611686018427387904) :
    Calls Tryz.prog 18 #[.string s, .slice fa fs.length fc] w fun e w' => e = .returned (.tuple #[.string ⟨(encSays s.data.toList fs).1.toArray⟩, .int .i64 (encSays s.data.toList fs).2]) ∧ Below w.heap.size w w' := by
  obtain ⟨w1, hw1⟩ : ∃ w1, w1 = ((w.alloc (.cells #[.string s] 9)).alloc (.cells #[.slice fa fs.length fc] 45)).alloc (.cells #[.slice none 0 0] 63) := ⟨_, rfl⟩
  have hs1 : w1.heap.size = w.heap.size + 3 := by rw [hw1]; simp
  have hb1 : Below w.heap.size w w1 := by rw [hw1]; exact (((Below.refl _ w).alloc (Nat.le_refl _) _).alloc (by simp) _).alloc (by simp; omega) _
  have k0 : w1.cell? ⟨w.heap.size, 0, none⟩ = some (.string s) := by rw [hw1]; simp [go_sem]
  have k1 : w1.cell? ⟨w.heap.size + 1, 0, none⟩ = some (.slice fa fs.length fc) := by rw [hw1]; simp [go_sem]
  have k2 : w1.cell? ⟨w.heap.size + 2, 0, none⟩ = some (.slice none 0 0) := by rw [hw1]; simp [go_sem]
  have kf : w1.frozen? ⟨w.heap.size + 2, 0, none⟩ = false := by rw [hw1]; simp [go_sem]
  have hg1 := hg.below hb1
  have hu := under_below w1
  have hus := under_size w1
  have HB := encBody s hs fs fa fc (w.heap.size + 2) (under w1) ⟨w.heap.size, 0, none⟩ ⟨w.heap.size + 1, 0, none⟩ ((hu.cell (p := ⟨w.heap.size, 0, none⟩) (by simp; omega)).trans k0) ((hu.cell (p := ⟨w.heap.size + 1, 0, none⟩) (by simp; omega)).trans k1)
    ⟨by simp, by simp, by simp; omega, by simp; omega⟩ (by omega) ((hu.cell (p := ⟨w.heap.size + 2, 0, none⟩) (by simp; omega)).trans k2) ((hu.frozen (p := ⟨w.heap.size + 2, 0, none⟩) (by simp; omega)).trans kf)
    ((FldsIn.kept (B := w.heap.size) (fun k hk => by rw [hu.block k (by omega), hb1.block k hk]) _ _ _ hfs).kept_up (by omega)) hfine hn
  have HTWO : ∀ W, Kept (Ours (w.heap.size + 2) (under w1).heap.size) (under w1) W → (under w1).heap.size ≤ W.heap.size ∧ ∀ k, Two w1.heap.size k → W.heap[k]? = (under w1).heap[k]? := fun W h => ⟨h.size, fun k hk => h.block k (by rcases hk with h | h <;> omega) (fun ho => by rcases hk with h | h <;> rcases ho with h' | h' <;> omega)⟩
  have HBEL : ∀ W w', Kept (Ours (w.heap.size + 2) (under w1).heap.size) (under w1) W → Kept (Two w1.heap.size) W w' → Below w.heap.size w w' := fun W w' h h2 =>
    ((hb1.trans (hu.mono (by omega))).trans (h.below (by omega) (fun k hk => by rcases hk with h | h <;> omega))).trans (h2.below (by have := h.size; omega) (fun k hk => by rcases hk with h | h <;> omega))
  have hmf : ∀ (fn : Fn) (first cap : Array Value) (w : World), (Instr.makeFunc fn first cap).run Tryz.prog w = .ok (.func fn first cap) w := fun _ _ _ _ => rfl
  by_cases hz : (encSays s.data.toList fs).2 = 0
  · have HRUN : Hid (Calls Tryz.prog 33 #[.func (.func 34) #[] #[.pointer (some ⟨w.heap.size, 0, none⟩), .pointer (some ⟨w.heap.size + 1, 0, none⟩), .pointer (some ⟨w.heap.size + 2, 0, none⟩)]] w1 fun e w' => e = .returned (caughtV 0 0 0) ∧ Below w.heap.size w w' ∧ w.heap.size + 2 < w'.heap.size ∧
        ∃ (v' : Value) (base : Nat), w'.cell? ⟨w.heap.size + 2, 0, none⟩ = some v' ∧ w'.ownsRow base 5 1 v' (encSays s.data.toList fs).1.length (bcs (encSays s.data.toList fs).1)) := Lib.hid (by
      refine (run_ok 34 _ _ (fun W => Kept (Ours (w.heap.size + 2) (under w1).heap.size) (under w1) W ∧ ∃ (v' : Value) (base : Nat), (under w1).heap.size ≤ base ∧ W.cell? ⟨w.heap.size + 2, 0, none⟩ = some v' ∧ W.ownsRow base 5 1 v' (encSays s.data.toList fs).1.length (bcs (encSays s.data.toList fs).1)) entEn (HB.mono ?_)).mono ?_
      · rintro e w' ⟨h1, h2⟩
        rcases h2 with ⟨-, rfl, h3⟩ | ⟨h, -⟩
        · exact ⟨rfl, ⟨h1, h3⟩, HTWO w' h1⟩
        · exact absurd hz h
      · rintro e w' ⟨rfl, W, ⟨h1, v', base, hbs, h3, h4⟩, hk⟩
        have hsz := h1.size
        have hsz2 := hk.size
        refine ⟨rfl, HBEL W w' h1 hk, by omega, v', base, ?_, own_put h4 (fun g e => ?_)⟩
        · exact (World.cell?_of_block (hk.block (w.heap.size + 2) (by omega) (fun h => by rcases h with h | h <;> omega))).trans h3
        · have := h4.lt g e
          exact hk.block g this.2 (fun h => by rcases h with h | h <;> omega))
    have hfd : ∀ (k c p : Int) (w : World), (Instr.field 65 (.agg #[.int .i64 k, .string ⟨#[]⟩, .int .i64 c, .int .i64 p]) 2).run Tryz.prog w = .ok (.int .i64 c) w := fun _ _ _ _ => by kernel_rfl
    rw [hz]
    generalize (encSays s.data.toList fs).1 = bytes at *
    clear hb1 k0 k1 k2 kf hg1 hu hus HB HTWO HBEL hg hfs hfine hz
    go_enter Tryz.func18, Tryz.ntmps18
    go_wp2_with fail
    rw [← hw1]
    refine HRUN.out.mono ?_
    rintro e w3 ⟨rfl, hb3, hs3, v', base, c3, h3⟩
    have HB3 := Lib.hid hb3
    have hcv : ∀ o, (convert 61 9 v').run Tryz.prog (w3.alloc o) = .ok (.string ⟨bytes.toArray⟩) (w3.alloc o) := fun o => own_text 61 9 Tryz.underlying61 Tryz.underlying5 Tryz.underlying9 (h3.alloc _)
    have hsw : w.heap.size ≤ w3.heap.size := by omega
    unfold caughtV
    clear hb3 h3
    go_wp2_with fail
    refine bodyPost_ret (v := .tuple #[.string ⟨bytes.toArray⟩, .int .i64 0]) (by simp [results, Tryz.results18, go_sem]) rfl ?_
    exact ⟨rfl, HB3.out.alloc hsw _⟩
  · have hzero := encSays_zero hz
    have HRUN : Hid (Calls Tryz.prog 33 #[.func (.func 34) #[] #[.pointer (some ⟨w.heap.size, 0, none⟩), .pointer (some ⟨w.heap.size + 1, 0, none⟩), .pointer (some ⟨w.heap.size + 2, 0, none⟩)]] w1 fun e w' => e = .returned (caughtV 2 (encSays s.data.toList fs).2 0) ∧ Below w.heap.size w w' ∧ w.heap.size ≤ w'.heap.size) := Lib.hid (by
      refine (run_bad 34 _ _ (encSays s.data.toList fs).2 0 (fun W => Kept (Ours (w.heap.size + 2) (under w1).heap.size) (under w1) W) (fun W h => ?_) entEn (HB.mono ?_) hg1.pos).mono ?_
      · exact hg.below (((hb1.trans (hu.mono (by omega))).trans (h.below (by omega) (fun k hk => by rcases hk with h | h <;> omega))))
      · rintro e w' ⟨h1, h2⟩
        rcases h2 with ⟨h, -⟩ | ⟨-, h3⟩
        · exact absurd h hz
        · exact ⟨h3, h1, HTWO w' h1⟩
      · rintro e w' ⟨rfl, W, h1, hk⟩
        have hsz := h1.size
        have hsz2 := hk.size
        exact ⟨rfl, HBEL W w' h1 hk, by omega⟩)
    rw [hzero]
    generalize (encSays s.data.toList fs).2 = code at *
    clear hb1 k0 k1 k2 kf hg1 hu hus HB HTWO HBEL hg hfs hfine hz hzero
    go_enter Tryz.func18, Tryz.ntmps18
    go_wp2_with fail
    rw [← hw1]
    refine HRUN.out.mono ?_
    rintro e w3 ⟨rfl, hb3, hsw⟩
    have HB3 := Lib.hid hb3
    unfold caughtV
    clear hb3
    go_wp2_with fail
    go_region
    all_goals (
      go_wp2_with fail
      refine bodyPost_ret (v := .tuple #[.string ⟨#[]⟩, .int .i64 code]) (by simp [results, Tryz.results18, go_sem]) rfl ?_
      exact ⟨rfl, (HB3.out.alloc hsw _).drew⟩)
end Go.Proofs.YtidfgjgbigedeaaGreatDoor
end
