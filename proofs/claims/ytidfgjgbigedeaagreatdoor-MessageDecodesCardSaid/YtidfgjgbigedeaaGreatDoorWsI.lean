/- The document's own Head and Decode. -/
import Derived.Test.YtidfgjgbigedeaaGreatDoorWsH
import Derived.Test.YtidfgjgbigedeaaGreatDoorWrD
import Derived.Test.YtidfgjgbigedeaaGreatDoorWqAll
namespace Go.Proofs.YtidfgjgbigedeaaGreatDoor
open Go.RowKit Go.Lib Go.Wq
set_option linter.unusedVariables false
set_option linter.unusedSimpArgs false
set_option maxRecDepth 100000

/-- A reader's answer: fields, where, an error. -/
def TellEnds (t : List Fld × Nat × Nat) (w : World) (e : Ending) (w' : World) : Prop :=
  Below w.heap.size w w' ∧ ∃ (a : Option Addr) (c : Nat), e = .returned (.tuple #[.slice a t.1.length c, .int .i64 (t.2.1 : Int), .int .i64 (t.2.2 : Int)]) ∧ FldsS w' (New w.heap.size w') t.1 a t.1.length
theorem tell_none {at_ code : Nat} {w w' : World} (h : Below w.heap.size w w') : TellEnds ([], at_, code) w (.returned (.tuple #[.slice none 0 0, .int .i64 (at_ : Int), .int .i64 (code : Int)])) w' :=
  ⟨h, none, 0, rfl, by simp [FldsS]⟩
theorem all_says (s : ByteArray) (its : List It) : AllSays s its := its_ind (AllSays s) (fun its ih => all_any s its (fun it hit => one_all s it (fun its' e => ih its' (by rw [← e]; exact hit)))) its

set_option maxHeartbeats 2000000 in
theorem refHead_any (sh s : ByteArray) (hs : sh.size ≤ 140737488351232) (hs2 : s.size ≤ 140737488351232) (w : World) :
    Calls Tryz.prog 58 #[.string sh, .string s] w (TellEnds (headSays sh.data.toList s.data.toList) w) := by
  have hl : s.data.toList.length = s.size := Array.length_toList
  have HP := Lib.hid (shaped_any sh hs w)
  cases hx : Go.Wq.shape sh.data.toList with
  | none =>
    have HR : Hid (Calls Tryz.prog 41 #[.string sh] w fun e w' => ∃ v : Value, e = .returned (.tuple #[v, .bool false]) ∧ Below w.heap.size w w') := Lib.hid (HP.out.mono (fun e w' h => by unfold ShapedEnds at h; rw [hx] at h; exact h))
    have HE : Hid (headSays sh.data.toList s.data.toList = ([], 0, 40)) := Lib.hid (by unfold headSays; rw [hx])
    rw [HE.out]
    clear HP hx hl
    go_enter Tryz.func58, Tryz.ntmps58
    go_wp2_with fail
    refine HR.out.mono ?_
    rintro e w2 ⟨v, rfl, b2⟩
    have B2 := Lib.hid b2
    clear b2
    go_wp2_with fail
    refine bodyPost_ret (v := .tuple #[.slice none 0 0, .int .i64 0, .int .i64 40]) (by simp [results, Tryz.results58, go_sem]) rfl ?_
    exact tell_none B2.out
  | some its =>
    have HR : Hid (Calls Tryz.prog 41 #[.string sh] w fun e w' => ∃ (a : Option Addr) (c : Nat), e = .returned (.tuple #[.slice a its.length c, .bool true]) ∧ ItsZ w' (fun k => w.heap.size ≤ k ∧ k < w'.heap.size) its a its.length ∧ Below w.heap.size w w') := Lib.hid (HP.out.mono (fun e w' h => by unfold ShapedEnds at h; rw [hx] at h; exact h))
    by_cases hbig : 65536 < s.size
    · have HE : Hid (headSays sh.data.toList s.data.toList = ([], 0, 3)) := Lib.hid (by unfold headSays; rw [hx]; simp only []; rw [if_pos (by omega)])
      have hd : (65536 : Int) < (s.size : Int) := by omega
      rw [HE.out]
      clear HP hx hl
      go_enter Tryz.func58, Tryz.ntmps58
      go_wp2_with fail
      refine HR.out.mono ?_
      rintro e w2 ⟨a, c, rfl, -, b2⟩
      have B2 := Lib.hid b2
      clear b2
      go_wp2_with fail
      refine bodyPost_ret (v := .tuple #[.slice none 0 0, .int .i64 0, .int .i64 3]) (by simp [results, Tryz.results58, go_sem]) rfl ?_
      exact tell_none B2.out
    · have hd : ¬ (65536 : Int) < (s.size : Int) := by omega
      have hok := shape_ok hx
      have HA := Lib.hid (fun (w2 : World) (a : Option Addr) (c : Nat) (hz : ItsZ w2 (fun k => w.heap.size ≤ k ∧ k < w2.heap.size) its a its.length) => all_says s its 0 a its.length c _ w2 (Nat.zero_le _) (by omega) hok hz (fun k hk => hk.2))
      have HH : Hid (headSays sh.data.toList s.data.toList = match rdAll s.data.toList its 0 with | .ok l q => (l, q, 0) | .bad e q => ([], q, e)) := Lib.hid (by unfold headSays; rw [hx]; simp only []; rw [if_neg (by omega)]; cases rdAll s.data.toList its 0 <;> rfl)
      clear HP hx hl hok
      go_enter Tryz.func58, Tryz.ntmps58
      go_wp2_with fail
      refine HR.out.mono ?_
      rintro e w2 ⟨a, c, rfl, hz, b2⟩
      have B2 := Lib.hid b2
      have HA2 := Lib.hid (HA.out w2 a c hz)
      clear b2 hz
      go_wp2_with fail
      refine HA2.out.mono ?_
      rintro e w3 ⟨b3, hcs⟩
      have hs23 := B2.out.size
      have HB3 := Lib.hid (B2.out.trans (b3.mono hs23))
      have hs3 := HB3.out.size
      clear b3
      cases hrd : rdAll s.data.toList its 0 with
      | ok l q =>
        rw [hrd] at hcs
        obtain ⟨la, lc, rfl, hfl⟩ := hcs
        have HE : Hid (headSays sh.data.toList s.data.toList = (l, q, 0)) := Lib.hid (by rw [HH.out, hrd])
        have HFin := Lib.hid (show ∀ w', Below w3.heap.size w3 w' → TellEnds (l, q, 0) w (.returned (.tuple #[.slice la l.length lc, .int .i64 (q : Int), .int .i64 0])) w' from fun w' hb => ⟨HB3.out.trans (hb.mono hs3), la, lc, rfl, FldsS.kept (fun k hk => hb.block k hk.2) (fun k hk => ⟨Nat.le_trans hs23 hk.1, Nat.lt_of_lt_of_le hk.2 hb.size⟩) _ _ _ hfl⟩)
        rw [HE.out]
        clear hfl hrd
        go_wp2_with fail
        go_region
        all_goals
          go_wp2_with fail
          refine bodyPost_ret (v := .tuple #[.slice la l.length lc, .int .i64 (q : Int), .int .i64 0]) (by simp [results, Tryz.results58, go_sem]) rfl ?_
          (try rw [HE.out])
          with_reducible first | exact HFin.out _ ((Below.refl _ _).alloc (Nat.le_refl _) _) | exact HFin.out _ ((Below.refl _ _).alloc (Nat.le_refl _) _).drew
      | bad er fr =>
        rw [hrd] at hcs
        obtain ⟨at_, la, ln, lc, rfl⟩ := hcs
        have HE : Hid (headSays sh.data.toList s.data.toList = ([], fr, er)) := Lib.hid (by rw [HH.out, hrd])
        have hne : er ≠ 0 := by rcases rdAll_bad _ _ _ _ hrd with h | h <;> omega
        have hne' : ((er : Int) != 0) = true := by simp; omega
        have HFin := Lib.hid (show ∀ w', Below w3.heap.size w3 w' → TellEnds ([], fr, er) w (.returned (.tuple #[.slice none 0 0, .int .i64 (fr : Int), .int .i64 (er : Int)])) w' from fun w' hb => tell_none (HB3.out.trans (hb.mono hs3)))
        rw [HE.out]
        clear hrd hne
        go_wp2_with fail
        go_region
        all_goals
          go_wp2_with fail
          refine bodyPost_ret (v := .tuple #[.slice none 0 0, .int .i64 (fr : Int), .int .i64 (er : Int)]) (by simp [results, Tryz.results58, go_sem]) rfl ?_
          (try rw [HE.out])
          with_reducible first | exact HFin.out _ ((Below.refl _ _).alloc (Nat.le_refl _) _) | exact HFin.out _ ((Below.refl _ _).alloc (Nat.le_refl _) _).drew

set_option maxHeartbeats 2000000 in
theorem refDecode_any (sh s : ByteArray) (hs : sh.size ≤ 140737488351232) (hs2 : s.size ≤ 140737488351232) (w : World) :
    Calls Tryz.prog 29 #[.string sh, .string s] w (TellEnds (decSays sh.data.toList s.data.toList) w) := by
  have hl : s.data.toList.length = s.size := Array.length_toList
  have HC := Lib.hid (refHead_any sh s hs hs2 w)
  have HD : Hid (decSays sh.data.toList s.data.toList = if (headSays sh.data.toList s.data.toList).2.2 ≠ 0 then ([], (headSays sh.data.toList s.data.toList).2.1, (headSays sh.data.toList s.data.toList).2.2) else if (headSays sh.data.toList s.data.toList).2.1 < s.size then ([], (headSays sh.data.toList s.data.toList).2.1, 44) else ((headSays sh.data.toList s.data.toList).1, 0, 0)) := Lib.hid (by unfold decSays; rw [hl])
  generalize decSays sh.data.toList s.data.toList = D at *
  generalize headSays sh.data.toList s.data.toList = H at *
  obtain ⟨l, q, er⟩ := H
  simp only [] at HD
  clear hl hs hs2
  by_cases he : er = 0
  · subst he
    by_cases hq : q < s.size
    · have hqi : (q : Int) < (s.size : Int) := by omega
      obtain rfl : D = ([], q, 44) := by rw [HD.out]; simp [hq]
      clear HD
      go_enter Tryz.func29, Tryz.ntmps29
      go_wp2_with fail
      refine HC.out.mono ?_
      rintro e w2 ⟨b2, a, c, rfl, -⟩
      have HFin := Lib.hid (tell_none (at_ := q) (code := 44) b2)
      clear b2
      go_wp2_with fail
      refine bodyPost_ret (v := .tuple #[.slice none 0 0, .int .i64 (q : Int), .int .i64 44]) (by simp [results, Tryz.results29, go_sem]) rfl ?_
      exact HFin.out
    · have hqi : ¬ (q : Int) < (s.size : Int) := by omega
      obtain rfl : D = (l, 0, 0) := by rw [HD.out]; simp [hq]
      clear HD
      go_enter Tryz.func29, Tryz.ntmps29
      go_wp2_with fail
      refine HC.out.mono ?_
      rintro e w2 ⟨b2, a, c, rfl, hf⟩
      have HFin := Lib.hid (show TellEnds (l, 0, 0) w (.returned (.tuple #[.slice a l.length c, .int .i64 0, .int .i64 0])) w2 from ⟨b2, a, c, rfl, hf⟩)
      clear b2 hf
      go_wp2_with fail
      refine bodyPost_ret (v := .tuple #[.slice a l.length c, .int .i64 0, .int .i64 0]) (by simp [results, Tryz.results29, go_sem]) rfl ?_
      exact HFin.out
  · have hne : ((er : Int) != 0) = true := by simp; omega
    obtain rfl : D = ([], q, er) := by rw [HD.out]; simp [he]
    clear HD he
    go_enter Tryz.func29, Tryz.ntmps29
    go_wp2_with fail
    refine HC.out.mono ?_
    rintro e w2 ⟨b2, a, c, rfl, -⟩
    have HFin := Lib.hid (tell_none (at_ := q) (code := er) b2)
    clear b2
    go_wp2_with fail
    refine bodyPost_ret (v := .tuple #[.slice none 0 0, .int .i64 (q : Int), .int .i64 (er : Int)]) (by simp [results, Tryz.results29, go_sem]) rfl ?_
    exact HFin.out
end Go.Proofs.YtidfgjgbigedeaaGreatDoor
