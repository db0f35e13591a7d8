/- The program's Head: its closure. The program's Head and Decode, whole. -/
import Derived.Test.YtidfgjgbigedeaaGreatDoorWpT4
import Derived.Test.YtidfgjgbigedeaaGreatDoorWpC
import Derived.Test.YtidfgjgbigedeaaGreatDoorWrA
import Derived.Test.YtidfgjgbigedeaaGreatDoorWqAll
import Derived.Test.YtidfgjgbigedeaaGreatDoorWsI
section
namespace Go.Proofs.YtidfgjgbigedeaaGreatDoor
open Go.RowKit Go.Lib Go.Wq
set_option linter.unusedVariables false
set_option linter.unusedSimpArgs false
set_option maxRecDepth 100000

theorem entHe (args : Array Value) (w : World) : (callFunc 83 args).run Tryz.prog w = .ok (.enter 83 args) w := by kernel_rfl

/-- The blocks that Head's closure turns. -/
def HTurn (rb lb : Nat) : Nat → Prop := fun k => k = rb ∨ k = lb
/-- How Head's closure ends. -/
def HBEnds (t : List Fld × Nat × Nat) (rb lb : Nat) (s : ByteArray) (w : World) (e : Ending) (w' : World) : Prop :=
  Kept (HTurn rb lb) w w' ∧ ((t.2.2 = 0 ∧ e = .returned (.tuple #[]) ∧ (∃ (a : Option Addr) (c : Nat), w'.cell? ⟨lb, 0, none⟩ = some (.slice a t.1.length c) ∧ FldsS w' (New w.heap.size w') t.1 a t.1.length ∧ t.1.length ≤ c) ∧ Rd w' rb s t.2.1) ∨
    (t.2.2 ≠ 0 ∧ Dies t.2.2 t.2.1 w e w'))

set_option maxHeartbeats 4000000 in
theorem headBody (sh s : ByteArray) (hs : sh.size ≤ 281474976710656) (rb lb : Nat) (w : World) (a0 a1 : Addr) (ha0 : w.cell? a0 = some (.string sh)) (ha1 : w.cell? a1 = some (.string s))
    (hA : a0.block ≠ rb ∧ a1.block ≠ rb ∧ a0.block < w.heap.size ∧ a1.block < w.heap.size) (hrl : rb ≠ lb) (hrb : rb < w.heap.size) (hlb : lb < w.heap.size)
    (hr : Rd w rb s 0) (hlc : w.cell? ⟨lb, 0, none⟩ = some (.slice none 0 0)) (hlf : w.frozen? ⟨lb, 0, none⟩ = false) :
    Calls Tryz.prog 83 #[.pointer (some a0), .pointer (some a1), .pointer (some ⟨rb, 0, none⟩), .pointer (some ⟨lb, 0, none⟩)] w (HBEnds (headSays sh.data.toList s.data.toList) rb lb s w) := by
  have hl : s.data.toList.length = s.size := Array.length_toList
  have HP := Lib.hid (parse_any sh hs w)
  cases hx : Go.Wq.shape sh.data.toList with
  | none =>
    have HR : Hid (Calls Tryz.prog 35 #[.string sh] w fun e w' => Dies 40 0 w e w' ∧ Below w.heap.size w w') := Lib.hid (HP.out.mono (fun e w' h => by unfold ParseEnds at h; rw [hx] at h; exact h))
    have HE : Hid (headSays sh.data.toList s.data.toList = ([], 0, 40)) := Lib.hid (by unfold headSays; rw [hx])
    rw [HE.out]
    clear HP hx hl hr
    go_enter Tryz.func83, Tryz.ntmps83
    go_wp2_with fail
    refine HR.out.mono ?_
    rintro e w3 ⟨⟨pb, rfl, hd1⟩, hb3⟩
    have HD := Lib.hid hd1
    have HB3 := Lib.hid hb3
    clear hd1 hb3
    go_wp2_with fail
    exact ⟨rfl, Kept.of_below HB3.out, Or.inr ⟨by decide, pb, rfl, HD.out⟩⟩
  | some its =>
    have HR : Hid (Calls Tryz.prog 35 #[.string sh] w fun e w' => ∃ (a : Option Addr) (c : Nat), e = .returned (.slice a its.length c) ∧ ItsZ w' (fun k => w.heap.size ≤ k ∧ k < w'.heap.size) its a its.length ∧ Below w.heap.size w w') := Lib.hid (HP.out.mono (fun e w' h => by unfold ParseEnds at h; rw [hx] at h; exact h))
    have HA1 : Hid (∀ w2, Below w.heap.size w w2 → w2.cell? a1 = some (.string s)) := Lib.hid (fun w2 h => (h.cell hA.2.2.2).trans ha1)
    by_cases hbig : 65536 < s.size
    · have HE : Hid (headSays sh.data.toList s.data.toList = ([], 0, 3)) := Lib.hid (by unfold headSays; rw [hx]; simp only []; rw [if_pos (by omega)])
      have hd : decide ((s.size : Int) ≤ 65536) = false := decide_eq_false (by omega)
      have hd2 : decide (s.size ≤ 65536) = false := decide_eq_false (by omega)
      rw [HE.out]
      clear HP hx hl hr
      go_enter Tryz.func83, Tryz.ntmps83
      go_wp2_with fail
      refine HR.out.mono ?_
      rintro e w2 ⟨xa, xc, rfl, -, hb2⟩
      have c2 := HA1.out w2 hb2
      have hs2 := hb2.size
      have HB2 := Lib.hid hb2
      clear hb2
      go_wp2_with fail
      first | rw [hd] | rw [hd2] | skip
      refine (check_bad _ _ _).mono ?_
      rintro e w3 ⟨⟨pb, rfl, hd1⟩, hb3⟩
      have HD := Lib.hid hd1
      have HB3 := Lib.hid hb3
      clear hd1 hb3
      go_wp2_with fail
      exact ⟨rfl, Kept.of_below (HB2.out.trans (HB3.out.mono hs2)), Or.inr ⟨by decide, pb, rfl, Nat.le_trans hs2 HD.out.1, HD.out.2⟩⟩
    · obtain ⟨h256, hsm⟩ := shape_sm hx
      have hok := shape_ok hx
      have hd : decide ((s.size : Int) ≤ 65536) = true := decide_eq_true (by omega)
      have hd2 : decide (s.size ≤ 65536) = true := decide_eq_true (by omega)
      have HH : Hid (headSays sh.data.toList s.data.toList = match rdAll s.data.toList its 0 with | .ok l q => (l, q, 0) | .bad e q => ([], q, e)) := Lib.hid (by unfold headSays; rw [hx]; simp only []; rw [if_neg (by omega)]; cases rdAll s.data.toList its 0 <;> rfl)
      have HF : Hid (∀ (w2 : World) (xa : Option Addr) (xc : Nat), ItsZ w2 (fun k => w.heap.size ≤ k ∧ k < w2.heap.size) its xa its.length → Below w.heap.size w w2 → Calls Tryz.prog 85 #[.pointer (some ⟨rb, 0, none⟩), .slice xa its.length xc] w2 (PAllEnds rb s its 0 w2)) := Lib.hid (fun w2 xa xc hz hb =>
        pall_says rb s its 0 xa xc _ w2 (hr.kept (hb.block rb hrb)) (by omega) h256 hok hsm hz (fun k hk => ⟨hk.2, by have := hk.1; omega⟩) (by have := hb.size; omega))
      have HL : Hid (∀ w2, Below w.heap.size w w2 → ∀ w3, Kept (fun k => k = rb) w2 w3 → w3.cell? ⟨lb, 0, none⟩ = some (.slice none 0 0) ∧ w3.frozen? ⟨lb, 0, none⟩ = false) := Lib.hid (fun w2 h w3 k => by
        have e : w3.heap[lb]? = w.heap[lb]? := (k.block lb (by have := h.size; omega) (fun e => hrl e.symm)).trans (h.block lb hlb)
        exact ⟨(World.cell?_of_block e).trans hlc, (World.frozen?_of_block e).trans hlf⟩)
      have hA0 := hA.2.2.1
      clear HP hx hl hr hok hsm hA hbig
      go_enter Tryz.func83, Tryz.ntmps83
      go_wp2_with fail
      refine HR.out.mono ?_
      rintro e w2 ⟨xa, xc, rfl, hz, hb2⟩
      have HC := Lib.hid (HF.out w2 xa xc hz hb2)
      have c2 := HA1.out w2 hb2
      have hs2 := hb2.size
      have HB2 := Lib.hid hb2
      clear hz hb2
      go_wp2_with fail
      first | rw [hd] | rw [hd2] | skip
      refine (check_ok _ _ _).mono ?_
      rintro e w3 ⟨rfl, rfl⟩
      go_wp2_with fail
      refine HC.out.mono ?_
      rintro e w3 ⟨hk3, hcs⟩
      obtain ⟨l3, lf3⟩ := HL.out w2 HB2.out w3 hk3
      have HK3 : Hid (Kept (HTurn rb lb) w w3) := Lib.hid ((Kept.of_below HB2.out).trans (hk3.mono (fun k h => Or.inl h)))
      have hs3 := HK3.out.size
      have hk3s := hk3.size
      clear hk3
      cases hrd : rdAll s.data.toList its 0 with
      | ok l q =>
        rw [hrd] at hcs
        obtain ⟨a, c, rfl, hfl, hr3, hlc2⟩ := hcs
        have HE : Hid (headSays sh.data.toList s.data.toList = (l, q, 0)) := Lib.hid (by rw [HH.out, hrd])
        have HFin : Hid (HBEnds (l, q, 0) rb lb s w (.returned (.tuple #[])) (w3.setCell ⟨lb, 0, none⟩ (.slice a l.length c))) := Lib.hid (by
          refine ⟨HK3.out.setCell _ _ (Or.inr rfl), Or.inl ⟨rfl, rfl, ⟨a, c, by simp [go_sem, l3], ?_, hlc2⟩, ?_⟩⟩
          · exact FldsS.kept (fun k hk => Below.heap_setCell _ _ _ _ (by have := hk.1; show k ≠ lb; omega)) (fun k hk => ⟨by have := hk.1; show w.heap.size ≤ k; omega, by have := hk.2; simpa [World.setCell] using this⟩) _ _ _ hfl
          · exact hr3.kept (Below.heap_setCell _ _ _ _ hrl))
        rw [HE.out]
        clear hfl hr3 hrd
        go_wp2_with fail
        first | go_end0 | refine bodyPost_ret (results_none rfl _ _ _) rfl ?_
        (try rw [HE.out])
        exact HFin.out
      | bad er fr =>
        rw [hrd] at hcs
        obtain ⟨pb, rfl, hd1⟩ := hcs
        have HD := Lib.hid hd1
        have HE : Hid (headSays sh.data.toList s.data.toList = ([], fr, er)) := Lib.hid (by rw [HH.out, hrd])
        have hne : er ≠ 0 := by rcases rdAll_bad _ _ _ _ hrd with h | h <;> omega
        have HNE := Lib.hid hne
        rw [HE.out]
        clear hd1 hrd hne
        go_wp2_with fail
        (try rw [HE.out])
        exact ⟨rfl, HK3.out, Or.inr ⟨HNE.out, pb, rfl, Nat.le_trans hs2 HD.out.1, HD.out.2⟩⟩
end Go.Proofs.YtidfgjgbigedeaaGreatDoor
end

section
namespace Go.Proofs.YtidfgjgbigedeaaGreatDoor
open Go.RowKit Go.Lib Go.Wq
set_option linter.unusedVariables false
set_option linter.unusedSimpArgs false
set_option maxRecDepth 100000

/-- A reader's answer, with room told. -/
def TellEndsC (t : List Fld × Nat × Nat) (w : World) (e : Ending) (w' : World) : Prop :=
  Below w.heap.size w w' ∧ ∃ (a : Option Addr) (c : Nat), e = .returned (.tuple #[.slice a t.1.length c, .int .i64 (t.2.1 : Int), .int .i64 (t.2.2 : Int)]) ∧ FldsS w' (New w.heap.size w') t.1 a t.1.length ∧ t.1.length ≤ c
theorem tell_noneC {at_ code : Nat} {w w' : World} (h : Below w.heap.size w w') : TellEndsC ([], at_, code) w (.returned (.tuple #[.slice none 0 0, .int .i64 (at_ : Int), .int .i64 (code : Int)])) w' :=
  ⟨h, none, 0, rfl, by simp [FldsS], by simp⟩
set_option maxHeartbeats 4000000 in
theorem wireHeadC_any (sh s : ByteArray) (hs : sh.size ≤ 140737488351232) (hs2 : s.size ≤ 140737488351232) (w : World) (hg : Handle w) :
    Calls Tryz.prog 53 #[.string sh, .string s] w (TellEndsC (headSays sh.data.toList s.data.toList) w) := by
  obtain ⟨w1, hw1⟩ : ∃ w1, w1 = (((w.alloc (.cells #[.string sh] 9)).alloc (.cells #[.string s] 9)).alloc (.cells #[.slice none 0 0] 45)).alloc (.cells #[.string s, .int .i64 0] 114) := ⟨_, rfl⟩
  have hs1 : w1.heap.size = w.heap.size + 4 := by rw [hw1]; simp
  have hb1 : Below w.heap.size w w1 := by rw [hw1]; exact ((((Below.refl _ w).alloc (Nat.le_refl _) _).alloc (by simp) _).alloc (by simp <;> omega) _).alloc (by simp <;> omega) _
  have k0 : w1.cell? ⟨w.heap.size, 0, none⟩ = some (.string sh) := by rw [hw1]; simp [go_sem]
  have k1 : w1.cell? ⟨w.heap.size + 1, 0, none⟩ = some (.string s) := by rw [hw1]; simp [go_sem]
  have k2 : w1.cell? ⟨w.heap.size + 2, 0, none⟩ = some (.slice none 0 0) := by rw [hw1]; simp [go_sem]
  have kf : w1.frozen? ⟨w.heap.size + 2, 0, none⟩ = false := by rw [hw1]; simp [go_sem]
  have kr : Rd w1 (w.heap.size + 3) s 0 := by rw [hw1]; exact ⟨by simp [go_sem], by simp [go_sem], by simp [go_sem], Nat.zero_le _⟩
  have hg1 := hg.below hb1
  have hu := under_below w1
  have hus := under_size w1
  have HB := headBody sh s (by omega) (w.heap.size + 3) (w.heap.size + 2) (under w1) ⟨w.heap.size, 0, none⟩ ⟨w.heap.size + 1, 0, none⟩ ((hu.cell (p := ⟨w.heap.size, 0, none⟩) (by simp; omega)).trans k0) ((hu.cell (p := ⟨w.heap.size + 1, 0, none⟩) (by simp; omega)).trans k1)
    ⟨by simp, by simp, by simp; omega, by simp; omega⟩ (by omega) (by omega) (by omega) (kr.kept (hu.block _ (by omega))) ((hu.cell (p := ⟨w.heap.size + 2, 0, none⟩) (by simp; omega)).trans k2) ((hu.frozen (p := ⟨w.heap.size + 2, 0, none⟩) (by simp; omega)).trans kf)
  have HTWO : ∀ W, Kept (HTurn (w.heap.size + 3) (w.heap.size + 2)) (under w1) W → (under w1).heap.size ≤ W.heap.size ∧ ∀ k, Two w1.heap.size k → W.heap[k]? = (under w1).heap[k]? := fun W h => ⟨h.size, fun k hk => h.block k (by rcases hk with h | h <;> omega) (fun ho => by rcases hk with h | h <;> rcases ho with h' | h' <;> omega)⟩
  have HBEL : ∀ W w', Kept (HTurn (w.heap.size + 3) (w.heap.size + 2)) (under w1) W → Kept (Two w1.heap.size) W w' → Below w.heap.size w w' := fun W w' h h2 =>
    ((hb1.trans (hu.mono (by omega))).trans (h.below (by omega) (fun k hk => by rcases hk with h | h <;> omega))).trans (h2.below (by have := h.size; omega) (fun k hk => by rcases hk with h | h <;> omega))
  have hmf : ∀ (fn : Fn) (first cap : Array Value) (w : World), (Instr.makeFunc fn first cap).run Tryz.prog w = .ok (.func fn first cap) w := fun _ _ _ _ => rfl
  have HZ := headSays_zero (sh := sh.data.toList) (s := s.data.toList)
  generalize headSays sh.data.toList s.data.toList = t at *
  obtain ⟨l, q, code⟩ := t
  simp only [] at HZ
  by_cases hz : code = 0
  · subst hz
    have HRUN : Hid (Calls Tryz.prog 33 #[.func (.func 83) #[] #[.pointer (some ⟨w.heap.size, 0, none⟩), .pointer (some ⟨w.heap.size + 1, 0, none⟩), .pointer (some ⟨w.heap.size + 3, 0, none⟩), .pointer (some ⟨w.heap.size + 2, 0, none⟩)]] w1 fun e w' => e = .returned (caughtV 0 0 0) ∧ Below w.heap.size w w' ∧ w.heap.size + 3 < w'.heap.size ∧
        Rd w' (w.heap.size + 3) s q ∧ ∃ (a : Option Addr) (c : Nat), w'.cell? ⟨w.heap.size + 2, 0, none⟩ = some (.slice a l.length c) ∧ FldsS w' (New w.heap.size w') l a l.length ∧ l.length ≤ c) := Lib.hid (by
      refine (run_ok 83 _ _ (fun W => Kept (HTurn (w.heap.size + 3) (w.heap.size + 2)) (under w1) W ∧ (∃ (a : Option Addr) (c : Nat), W.cell? ⟨w.heap.size + 2, 0, none⟩ = some (.slice a l.length c) ∧ FldsS W (New (under w1).heap.size W) l a l.length ∧ l.length ≤ c) ∧ Rd W (w.heap.size + 3) s q) entHe (HB.mono ?_)).mono ?_
      · rintro e w' ⟨h1, h2⟩
        rcases h2 with ⟨-, rfl, h3, h4⟩ | ⟨h, -⟩
        · exact ⟨rfl, ⟨h1, h3, h4⟩, HTWO w' h1⟩
        · exact absurd rfl h
      · rintro e w' ⟨rfl, W, ⟨h1, ⟨a, c, h3, h4, h6⟩, h5⟩, hk⟩
        have hsz := h1.size
        have hsz2 := hk.size
        refine ⟨rfl, HBEL W w' h1 hk, by omega, h5.kept (hk.block _ (by omega) (fun h => by rcases h with h | h <;> omega)), a, c, (World.cell?_of_block (hk.block (w.heap.size + 2) (by omega) (fun h => by rcases h with h | h <;> omega))).trans h3, ?_, h6⟩
        exact FldsS.kept (fun k hk2 => hk.block k hk2.2 (fun h => by have := hk2.1; rcases h with h | h <;> omega)) (fun k hk2 => ⟨by have := hk2.1; show w.heap.size ≤ k; omega, Nat.lt_of_lt_of_le hk2.2 hsz2⟩) _ _ _ h4)
    clear hb1 k0 k1 k2 kf kr hg1 hu hus HB HTWO HBEL hg HZ
    go_enter Tryz.func53, Tryz.ntmps53
    go_wp2_with fail
    rw [← hw1]
    refine HRUN.out.mono ?_
    rintro e w3 ⟨rfl, hb3, hs3, ⟨r0, r1, rf, rle⟩, a, c, c3, h3, hlc⟩
    have HLC := Lib.hid hlc
    clear hlc
    have HB3 := Lib.hid hb3
    have HF3 := Lib.hid h3
    unfold caughtV
    clear hb3 h3
    go_wp2_with fail
    have h2s : w.heap.size + 2 < w3.heap.size := by omega
    have hsw : w.heap.size ≤ w3.heap.size := by omega
    have HFin := Lib.hid (show ∀ w', Below w3.heap.size w3 w' → TellEndsC (l, q, 0) w (.returned (.tuple #[.slice a l.length c, .int .i64 (q : Int), .int .i64 0])) w' from fun w' hb => ⟨HB3.out.trans (hb.mono hsw), a, c, rfl, FldsS.kept (fun k hk => hb.block k hk.2) (fun k hk => ⟨hk.1, Nat.lt_of_lt_of_le hk.2 hb.size⟩) _ _ _ HF3.out, HLC.out⟩)
    go_region
    all_goals
      go_wp2_with fail
      refine bodyPost_ret (v := .tuple #[.slice a l.length c, .int .i64 (q : Int), .int .i64 0]) (by simp [results, Tryz.results53, go_sem]) rfl ?_
      with_reducible first | exact HFin.out _ ((Below.refl _ _).alloc (Nat.le_refl _) _) | exact HFin.out _ ((Below.refl _ _).alloc (Nat.le_refl _) _).drew
  · obtain rfl := HZ hz
    have HRUN : Hid (Calls Tryz.prog 33 #[.func (.func 83) #[] #[.pointer (some ⟨w.heap.size, 0, none⟩), .pointer (some ⟨w.heap.size + 1, 0, none⟩), .pointer (some ⟨w.heap.size + 3, 0, none⟩), .pointer (some ⟨w.heap.size + 2, 0, none⟩)]] w1 fun e w' => e = .returned (caughtV 2 code q) ∧ Below w.heap.size w w' ∧ w.heap.size ≤ w'.heap.size) := Lib.hid (by
      refine (run_bad 83 _ _ code q (fun W => Kept (HTurn (w.heap.size + 3) (w.heap.size + 2)) (under w1) W) (fun W h => ?_) entHe (HB.mono ?_) hg1.pos).mono ?_
      · exact hg.below (((hb1.trans (hu.mono (by omega))).trans (h.below (by omega) (fun k hk => by rcases hk with h | h <;> omega))))
      · rintro e w' ⟨h1, h2⟩
        rcases h2 with ⟨h, -⟩ | ⟨-, h3⟩
        · exact absurd h hz
        · exact ⟨h3, h1, HTWO w' h1⟩
      · rintro e w' ⟨rfl, W, h1, hk⟩
        have hsz := h1.size
        have hsz2 := hk.size
        exact ⟨rfl, HBEL W w' h1 hk, by omega⟩)
    clear hb1 k0 k1 k2 kf kr hg1 hu hus HB HTWO HBEL hg HZ hz
    go_enter Tryz.func53, Tryz.ntmps53
    go_wp2_with fail
    rw [← hw1]
    refine HRUN.out.mono ?_
    rintro e w3 ⟨rfl, hb3, hsw⟩
    have HB3 := Lib.hid hb3
    unfold caughtV
    clear hb3
    go_wp2_with fail
    have HFin := Lib.hid (show ∀ w', Below w3.heap.size w3 w' → TellEndsC ([], q, code) w (.returned (.tuple #[.slice none 0 0, .int .i64 (q : Int), .int .i64 (code : Int)])) w' from fun w' hb => tell_noneC (HB3.out.trans (hb.mono hsw)))
    go_region
    all_goals
      go_wp2_with fail
      refine bodyPost_ret (v := .tuple #[.slice none 0 0, .int .i64 (q : Int), .int .i64 (code : Int)]) (by simp [results, Tryz.results53, go_sem]) rfl ?_
      with_reducible first | exact HFin.out _ ((Below.refl _ _).alloc (Nat.le_refl _) _) | exact HFin.out _ ((Below.refl _ _).alloc (Nat.le_refl _) _).drew

set_option maxHeartbeats 2000000 in
theorem wireDecodeC_any (sh s : ByteArray) (hs : sh.size ≤ 140737488351232) (hs2 : s.size ≤ 140737488351232) (w : World) (hg : Handle w) :
    Calls Tryz.prog 54 #[.string sh, .string s] w (TellEndsC (decSays sh.data.toList s.data.toList) w) := by
  have hl : s.data.toList.length = s.size := Array.length_toList
  have HC := Lib.hid (wireHeadC_any sh s hs hs2 w hg)
  have HD : Hid (decSays sh.data.toList s.data.toList = if (headSays sh.data.toList s.data.toList).2.2 ≠ 0 then ([], (headSays sh.data.toList s.data.toList).2.1, (headSays sh.data.toList s.data.toList).2.2) else if (headSays sh.data.toList s.data.toList).2.1 < s.size then ([], (headSays sh.data.toList s.data.toList).2.1, 44) else ((headSays sh.data.toList s.data.toList).1, 0, 0)) := Lib.hid (by unfold decSays; rw [hl])
  generalize decSays sh.data.toList s.data.toList = D at *
  generalize headSays sh.data.toList s.data.toList = H at *
  obtain ⟨l, q, er⟩ := H
  simp only [] at HD
  clear hl hs hs2
  by_cases he : er = 0
  · subst he
    by_cases hq : q < s.size
    · have hqi : (q : Int) < (s.size : Int) := by omega
      obtain rfl : D = ([], q, 44) := by rw [HD.out]; simp [hq]
      clear HD
      go_enter Tryz.func54, Tryz.ntmps54
      go_wp2_with fail
      refine HC.out.mono ?_
      rintro e w2 ⟨b2, a, c, rfl, -⟩
      have HFin := Lib.hid (tell_noneC (at_ := q) (code := 44) b2)
      clear b2
      go_wp2_with fail
      refine bodyPost_ret (v := .tuple #[.slice none 0 0, .int .i64 (q : Int), .int .i64 44]) (by simp [results, Tryz.results54, go_sem]) rfl ?_
      exact HFin.out
    · have hqi : ¬ (q : Int) < (s.size : Int) := by omega
      obtain rfl : D = (l, 0, 0) := by rw [HD.out]; simp [hq]
      clear HD
      go_enter Tryz.func54, Tryz.ntmps54
      go_wp2_with fail
      refine HC.out.mono ?_
      rintro e w2 ⟨b2, a, c, rfl, hf⟩
      have HFin := Lib.hid (show TellEndsC (l, 0, 0) w (.returned (.tuple #[.slice a l.length c, .int .i64 0, .int .i64 0])) w2 from ⟨b2, a, c, rfl, hf⟩)
      clear b2 hf
      go_wp2_with fail
      refine bodyPost_ret (v := .tuple #[.slice a l.length c, .int .i64 0, .int .i64 0]) (by simp [results, Tryz.results54, go_sem]) rfl ?_
      exact HFin.out
  · have hne : ((er : Int) != 0) = true := by simp; omega
    obtain rfl : D = ([], q, er) := by rw [HD.out]; simp [he]
    clear HD he
    go_enter Tryz.func54, Tryz.ntmps54
    go_wp2_with fail
    refine HC.out.mono ?_
    rintro e w2 ⟨b2, a, c, rfl, -⟩
    have HFin := Lib.hid (tell_noneC (at_ := q) (code := er) b2)
    clear b2
    go_wp2_with fail
    refine bodyPost_ret (v := .tuple #[.slice none 0 0, .int .i64 (q : Int), .int .i64 (er : Int)]) (by simp [results, Tryz.results54, go_sem]) rfl ?_
    exact HFin.out
end Go.Proofs.YtidfgjgbigedeaaGreatDoor
end
