/- The program's Head: its closure. -/
import Derived.Test.YtgikdmognolmoaaDoorWpT5
import Derived.Test.YtgikdmognolmoaaDoorWpC
import Derived.Test.YtgikdmognolmoaaDoorWrG
import Derived.Test.YtgikdmognolmoaaDoorWqAll
namespace Go.Proofs.YtgikdmognolmoaaDoor
open Go.RowKit Go.Lib Go.Wq
set_option linter.unusedVariables false
set_option linter.unusedSimpArgs false
set_option maxRecDepth 100000

theorem entHe (args : Array Value) (w : World) : (callFunc 15 args).run Tryd.prog w = .ok (.enter 15 args) w := by kernel_rfl

/-- The blocks that Head's closure turns. -/
def HTurn (rb lb : Nat) : Nat → Prop := fun k => k = rb ∨ k = lb
/-- How Head's closure ends. -/
def HBEnds (t : List Fld × Nat × Nat) (rb lb : Nat) (s : ByteArray) (w : World) (e : Ending) (w' : World) : Prop :=
  Kept (HTurn rb lb) w w' ∧ ((t.2.2 = 0 ∧ e = .returned (.tuple #[]) ∧ (∃ (a : Option Addr) (c : Nat), w'.cell? ⟨lb, 0, none⟩ = some (.slice a t.1.length c) ∧ FldsS w' (New w.heap.size w') t.1 a t.1.length) ∧ Rd w' rb s t.2.1) ∨
    (t.2.2 ≠ 0 ∧ Dies t.2.2 t.2.1 w e w'))

set_option maxHeartbeats 4000000 in
theorem headBody (sh s : ByteArray) (hs : sh.size ≤ 281474976710656) (rb lb : Nat) (w : World) (a0 a1 : Addr) (ha0 : w.cell? a0 = some (.string sh)) (ha1 : w.cell? a1 = some (.string s))
    (hA : a0.block ≠ rb ∧ a1.block ≠ rb ∧ a0.block < w.heap.size ∧ a1.block < w.heap.size) (hrl : rb ≠ lb) (hrb : rb < w.heap.size) (hlb : lb < w.heap.size)
    (hr : Rd w rb s 0) (hlc : w.cell? ⟨lb, 0, none⟩ = some (.slice none 0 0)) (hlf : w.frozen? ⟨lb, 0, none⟩ = false) :
    Calls Tryd.prog 15 #[.pointer (some a0), .pointer (some a1), .pointer (some ⟨rb, 0, none⟩), .pointer (some ⟨lb, 0, none⟩)] w (HBEnds (headSays sh.data.toList s.data.toList) rb lb s w) := by
  have hl : s.data.toList.length = s.size := Array.length_toList
  have HP := Lib.hid (parse_any sh hs w)
  cases hx : Go.Wq.shape sh.data.toList with
  | none =>
    have HR : Hid (Calls Tryd.prog 16 #[.string sh] w fun e w' => Dies 40 0 w e w' ∧ Below w.heap.size w w') := Lib.hid (HP.out.mono (fun e w' h => by unfold ParseEnds at h; rw [hx] at h; exact h))
    have HE : Hid (headSays sh.data.toList s.data.toList = ([], 0, 40)) := Lib.hid (by unfold headSays; rw [hx])
    rw [HE.out]
    clear HP hx hl hr
    go_enter Tryd.func15, Tryd.ntmps15
    go_wp2_with fail
    refine HR.out.mono ?_
    rintro e w3 ⟨⟨pb, rfl, hd1⟩, hb3⟩
    have HD := Lib.hid hd1
    have HB3 := Lib.hid hb3
    clear hd1 hb3
    go_wp2_with fail
    exact ⟨rfl, Kept.of_below HB3.out, Or.inr ⟨by decide, pb, rfl, HD.out⟩⟩
  | some its =>
    have HR : Hid (Calls Tryd.prog 16 #[.string sh] w fun e w' => ∃ (a : Option Addr) (c : Nat), e = .returned (.slice a its.length c) ∧ ItsZ w' (fun k => w.heap.size ≤ k ∧ k < w'.heap.size) its a its.length ∧ Below w.heap.size w w') := Lib.hid (HP.out.mono (fun e w' h => by unfold ParseEnds at h; rw [hx] at h; exact h))
    have HA1 : Hid (∀ w2, Below w.heap.size w w2 → w2.cell? a1 = some (.string s)) := Lib.hid (fun w2 h => (h.cell hA.2.2.2).trans ha1)
    by_cases hbig : 65536 < s.size
    · have HE : Hid (headSays sh.data.toList s.data.toList = ([], 0, 3)) := Lib.hid (by unfold headSays; rw [hx]; simp only []; rw [if_pos (by omega)])
      have hd : decide ((s.size : Int) ≤ 65536) = false := decide_eq_false (by omega)
      have hd2 : decide (s.size ≤ 65536) = false := decide_eq_false (by omega)
      rw [HE.out]
      clear HP hx hl hr
      go_enter Tryd.func15, Tryd.ntmps15
      go_wp2_with fail
      refine HR.out.mono ?_
      rintro e w2 ⟨xa, xc, rfl, -, hb2⟩
      have c2 := HA1.out w2 hb2
      have hs2 := hb2.size
      have HB2 := Lib.hid hb2
      clear hb2
      go_wp2_with fail
      first | rw [hd] | rw [hd2] | skip
      refine (check_bad _ _ _).mono ?_
      rintro e w3 ⟨⟨pb, rfl, hd1⟩, hb3⟩
      have HD := Lib.hid hd1
      have HB3 := Lib.hid hb3
      clear hd1 hb3
      go_wp2_with fail
      exact ⟨rfl, Kept.of_below (HB2.out.trans (HB3.out.mono hs2)), Or.inr ⟨by decide, pb, rfl, Nat.le_trans hs2 HD.out.1, HD.out.2⟩⟩
    · obtain ⟨h256, hsm⟩ := shape_sm hx
      have hok := shape_ok hx
      have hd : decide ((s.size : Int) ≤ 65536) = true := decide_eq_true (by omega)
      have hd2 : decide (s.size ≤ 65536) = true := decide_eq_true (by omega)
      have HH : Hid (headSays sh.data.toList s.data.toList = match rdAll s.data.toList its 0 with | .ok l q => (l, q, 0) | .bad e q => ([], q, e)) := Lib.hid (by unfold headSays; rw [hx]; simp only []; rw [if_neg (by omega)]; cases rdAll s.data.toList its 0 <;> rfl)
      have HF : Hid (∀ (w2 : World) (xa : Option Addr) (xc : Nat), ItsZ w2 (fun k => w.heap.size ≤ k ∧ k < w2.heap.size) its xa its.length → Below w.heap.size w w2 → Calls Tryd.prog 18 #[.pointer (some ⟨rb, 0, none⟩), .slice xa its.length xc] w2 (PAllEnds rb s its 0 w2)) := Lib.hid (fun w2 xa xc hz hb =>
        pall_says rb s its 0 xa xc _ w2 (hr.kept (hb.block rb hrb)) (by omega) h256 hok hsm hz (fun k hk => ⟨hk.2, by have := hk.1; omega⟩) (by have := hb.size; omega))
      have HL : Hid (∀ w2, Below w.heap.size w w2 → ∀ w3, Kept (fun k => k = rb) w2 w3 → w3.cell? ⟨lb, 0, none⟩ = some (.slice none 0 0) ∧ w3.frozen? ⟨lb, 0, none⟩ = false) := Lib.hid (fun w2 h w3 k => by
        have e : w3.heap[lb]? = w.heap[lb]? := (k.block lb (by have := h.size; omega) (fun e => hrl e.symm)).trans (h.block lb hlb)
        exact ⟨(World.cell?_of_block e).trans hlc, (World.frozen?_of_block e).trans hlf⟩)
      have hA0 := hA.2.2.1
      clear HP hx hl hr hok hsm hA hbig
      go_enter Tryd.func15, Tryd.ntmps15
      go_wp2_with fail
      refine HR.out.mono ?_
      rintro e w2 ⟨xa, xc, rfl, hz, hb2⟩
      have HC := Lib.hid (HF.out w2 xa xc hz hb2)
      have c2 := HA1.out w2 hb2
      have hs2 := hb2.size
      have HB2 := Lib.hid hb2
      clear hz hb2
      go_wp2_with fail
      first | rw [hd] | rw [hd2] | skip
      refine (check_ok _ _ _).mono ?_
      rintro e w3 ⟨rfl, rfl⟩
      go_wp2_with fail
      refine HC.out.mono ?_
      rintro e w3 ⟨hk3, hcs⟩
      obtain ⟨l3, lf3⟩ := HL.out w2 HB2.out w3 hk3
      have HK3 : Hid (Kept (HTurn rb lb) w w3) := Lib.hid ((Kept.of_below HB2.out).trans (hk3.mono (fun k h => Or.inl h)))
      have hs3 := HK3.out.size
      have hk3s := hk3.size
      clear hk3
      cases hrd : rdAll s.data.toList its 0 with
      | ok l q =>
        rw [hrd] at hcs
        obtain ⟨a, c, rfl, hfl, hr3⟩ := hcs
        have HE : Hid (headSays sh.data.toList s.data.toList = (l, q, 0)) := Lib.hid (by rw [HH.out, hrd])
        have HFin : Hid (HBEnds (l, q, 0) rb lb s w (.returned (.tuple #[])) (w3.setCell ⟨lb, 0, none⟩ (.slice a l.length c))) := Lib.hid (by
          refine ⟨HK3.out.setCell _ _ (Or.inr rfl), Or.inl ⟨rfl, rfl, ⟨a, c, by simp [go_sem, l3], ?_⟩, ?_⟩⟩
          · exact FldsS.kept (fun k hk => Below.heap_setCell _ _ _ _ (by have := hk.1; show k ≠ lb; omega)) (fun k hk => ⟨by have := hk.1; show w.heap.size ≤ k; omega, by have := hk.2; simpa [World.setCell] using this⟩) _ _ _ hfl
          · exact hr3.kept (Below.heap_setCell _ _ _ _ hrl))
        rw [HE.out]
        clear hfl hr3 hrd
        go_wp2_with fail
        first | go_end0 | refine bodyPost_ret (results_none rfl _ _ _) rfl ?_
        (try rw [HE.out])
        exact HFin.out
      | bad er fr =>
        rw [hrd] at hcs
        obtain ⟨pb, rfl, hd1⟩ := hcs
        have HD := Lib.hid hd1
        have HE : Hid (headSays sh.data.toList s.data.toList = ([], fr, er)) := Lib.hid (by rw [HH.out, hrd])
        have hne : er ≠ 0 := by rcases rdAll_bad _ _ _ _ hrd with h | h <;> omega
        have HNE := Lib.hid hne
        rw [HE.out]
        clear hd1 hrd hne
        go_wp2_with fail
        (try rw [HE.out])
        exact ⟨rfl, HK3.out, Or.inr ⟨HNE.out, pb, rfl, Nat.le_trans hs2 HD.out.1, HD.out.2⟩⟩
end Go.Proofs.YtgikdmognolmoaaDoor
