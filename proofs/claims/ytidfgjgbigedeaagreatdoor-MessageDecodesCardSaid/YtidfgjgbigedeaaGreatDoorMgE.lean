/- Messages, the document: packets. -/
import Derived.Test.YtidfgjgbigedeaaGreatDoorMgA
import Derived.Deep.DeepCutAuto
namespace Go.Proofs.YtidfgjgbigedeaaGreatDoor
open Go.Fq Go.RowKit Go.Mq
open Go.Iq (idE nameE)
set_option linter.unusedVariables false
set_option linter.unusedSimpArgs false
set_option maxRecDepth 100000

set_option maxHeartbeats 8000000 in
theorem rPacket_any (kd fr bk tw hm hp : Int) (sr : Nat) (cd : Int) (nm : ByteArray) (id at_ : Int) (bd : ByteArray) (hn : nm.size ≤ 9223372036854775807) (w : World) : Calls Tryz.prog 26 #[.agg #[.int .i64 kd, .int .i64 fr, .int .i64 bk, .int .i64 tw, .int .i64 hm, .int .i64 hp, .int .u64 (sr : Int), .int .i64 cd, .string nm, .int .i64 id, .int .i64 at_, .string bd]] w fun e w' => e = .returned (.bool (packB ⟨kd, fr, bk, tw, hm, hp, sr, cd, nm, id, at_, bd⟩)) ∧ Below w.heap.size w w' := by
  have N1 := Lib.hid (rNum_any fr)
  have N2 := Lib.hid (rNum_any tw)
  have N3 := Lib.hid (rNum_any bk)
  have N4 := Lib.hid (rNum_any hm)
  have N5 := Lib.hid (rNum_any id)
  have N6 := Lib.hid (rNum_any at_)
  have HN := Lib.hid (rName_any nm hn)
  unfold packB contentB hasAddr noAddr
  dsimp only
  clear hn
  generalize numB fr = A at *
  generalize numB tw = D at *
  generalize numB bk = B at *
  generalize numB hm = E at *
  generalize numB id = I at *
  generalize numB at_ = T at *
  generalize namB nm = N at *
  have hG : (A && (bk == 0 || B) && D && (hm == 0 || E) && decide (0 ≤ hp) && decide (hp ≤ 65536)) = (A && (D && ((bk == 0 || B) && ((hm == 0 || E) && (decide (0 ≤ hp) && decide (hp ≤ 65536)))))) := by cases A <;> cases D <;> cases (bk == 0 || B) <;> cases (hm == 0 || E) <;> rfl
  rw [hG]
  clear hG
  generalize hgen : (A && (D && ((bk == 0 || B) && ((hm == 0 || E) && (decide (0 ≤ hp) && decide (hp ≤ 65536)))))) = G
  have HG := Lib.hid hgen
  clear hgen
  generalize hgen : (I && (at_ == 0 || T)) = P
  have HP := Lib.hid hgen
  clear hgen
  generalize hgen : (id == 0 && at_ == 0) = Z
  have HZ := Lib.hid hgen
  clear hgen
  go_enter Tryz.func26, Tryz.ntmps26
  go_upto_region 1 with (fail)
  go_cut [46] (fun x wx => x = .bool (!G) ∧ wx = w.alloc (.cells #[.int .i64 kd, .int .i64 fr, .int .i64 bk, .int .i64 tw, .int .i64 hm, .int .i64 hp, .int .u64 (sr : Int), .int .i64 cd, .string nm, .int .i64 id, .int .i64 at_, .string bd] 25))
  case first =>
    cases A
    · skip
      go_wp2_with (first | (go_at_call 51; first | (with_reducible refine (N1.out _).mono ?_; rintro e w' ⟨rfl, rfl⟩) | (with_reducible refine (N2.out _).mono ?_; rintro e w' ⟨rfl, rfl⟩) | (with_reducible refine (N3.out _).mono ?_; rintro e w' ⟨rfl, rfl⟩) | (with_reducible refine (N4.out _).mono ?_; rintro e w' ⟨rfl, rfl⟩) | (with_reducible refine (N5.out _).mono ?_; rintro e w' ⟨rfl, rfl⟩) | (with_reducible refine (N6.out _).mono ?_; rintro e w' ⟨rfl, rfl⟩)) | (go_at_call 52; refine (HN.out _).mono ?_; rintro e w' ⟨rfl, rfl⟩))
      all_goals (go_meet; exact ⟨by rw [← HG.out]; first | rfl | (simp [*]; done), rfl⟩)
    · cases D
      · skip
        go_wp2_with (first | (go_at_call 51; first | (with_reducible refine (N1.out _).mono ?_; rintro e w' ⟨rfl, rfl⟩) | (with_reducible refine (N2.out _).mono ?_; rintro e w' ⟨rfl, rfl⟩) | (with_reducible refine (N3.out _).mono ?_; rintro e w' ⟨rfl, rfl⟩) | (with_reducible refine (N4.out _).mono ?_; rintro e w' ⟨rfl, rfl⟩) | (with_reducible refine (N5.out _).mono ?_; rintro e w' ⟨rfl, rfl⟩) | (with_reducible refine (N6.out _).mono ?_; rintro e w' ⟨rfl, rfl⟩)) | (go_at_call 52; refine (HN.out _).mono ?_; rintro e w' ⟨rfl, rfl⟩))
        all_goals (go_meet; exact ⟨by rw [← HG.out]; first | rfl | (simp [*]; done), rfl⟩)
      · skip
        cases h3 : (bk == 0)
        · have nh3 : ¬ bk = 0 := fun e => by subst e; cases h3
          have bh3 : (bk != 0) = true := by rw [bne, h3]; rfl
          cases B
          · skip
            go_wp2_with (first | (go_at_call 51; first | (with_reducible refine (N1.out _).mono ?_; rintro e w' ⟨rfl, rfl⟩) | (with_reducible refine (N2.out _).mono ?_; rintro e w' ⟨rfl, rfl⟩) | (with_reducible refine (N3.out _).mono ?_; rintro e w' ⟨rfl, rfl⟩) | (with_reducible refine (N4.out _).mono ?_; rintro e w' ⟨rfl, rfl⟩) | (with_reducible refine (N5.out _).mono ?_; rintro e w' ⟨rfl, rfl⟩) | (with_reducible refine (N6.out _).mono ?_; rintro e w' ⟨rfl, rfl⟩)) | (go_at_call 52; refine (HN.out _).mono ?_; rintro e w' ⟨rfl, rfl⟩))
            all_goals (go_meet; exact ⟨by rw [← HG.out]; first | rfl | (simp [*]; done), rfl⟩)
          · skip
            cases h4 : (hm == 0)
            · have nh4 : ¬ hm = 0 := fun e => by subst e; cases h4
              have bh4 : (hm != 0) = true := by rw [bne, h4]; rfl
              cases E
              · skip
                go_wp2_with (first | (go_at_call 51; first | (with_reducible refine (N1.out _).mono ?_; rintro e w' ⟨rfl, rfl⟩) | (with_reducible refine (N2.out _).mono ?_; rintro e w' ⟨rfl, rfl⟩) | (with_reducible refine (N3.out _).mono ?_; rintro e w' ⟨rfl, rfl⟩) | (with_reducible refine (N4.out _).mono ?_; rintro e w' ⟨rfl, rfl⟩) | (with_reducible refine (N5.out _).mono ?_; rintro e w' ⟨rfl, rfl⟩) | (with_reducible refine (N6.out _).mono ?_; rintro e w' ⟨rfl, rfl⟩)) | (go_at_call 52; refine (HN.out _).mono ?_; rintro e w' ⟨rfl, rfl⟩))
                all_goals (go_meet; exact ⟨by rw [← HG.out]; first | rfl | (simp [*]; done), rfl⟩)
              · skip
                cases h1 : (decide (0 ≤ hp))
                · skip
                  have g1 : ¬ 0 ≤ hp := of_decide_eq_false h1
                  go_wp2_with (first | (go_at_call 51; first | (with_reducible refine (N1.out _).mono ?_; rintro e w' ⟨rfl, rfl⟩) | (with_reducible refine (N2.out _).mono ?_; rintro e w' ⟨rfl, rfl⟩) | (with_reducible refine (N3.out _).mono ?_; rintro e w' ⟨rfl, rfl⟩) | (with_reducible refine (N4.out _).mono ?_; rintro e w' ⟨rfl, rfl⟩) | (with_reducible refine (N5.out _).mono ?_; rintro e w' ⟨rfl, rfl⟩) | (with_reducible refine (N6.out _).mono ?_; rintro e w' ⟨rfl, rfl⟩)) | (go_at_call 52; refine (HN.out _).mono ?_; rintro e w' ⟨rfl, rfl⟩))
                  all_goals (go_meet; exact ⟨by rw [← HG.out]; first | rfl | (simp [*]; done), rfl⟩)
                · skip
                  have g1 : 0 ≤ hp := of_decide_eq_true h1
                  cases h2 : (decide (hp ≤ 65536))
                  · skip
                    have g2 : ¬ hp ≤ 65536 := of_decide_eq_false h2
                    go_wp2_with (first | (go_at_call 51; first | (with_reducible refine (N1.out _).mono ?_; rintro e w' ⟨rfl, rfl⟩) | (with_reducible refine (N2.out _).mono ?_; rintro e w' ⟨rfl, rfl⟩) | (with_reducible refine (N3.out _).mono ?_; rintro e w' ⟨rfl, rfl⟩) | (with_reducible refine (N4.out _).mono ?_; rintro e w' ⟨rfl, rfl⟩) | (with_reducible refine (N5.out _).mono ?_; rintro e w' ⟨rfl, rfl⟩) | (with_reducible refine (N6.out _).mono ?_; rintro e w' ⟨rfl, rfl⟩)) | (go_at_call 52; refine (HN.out _).mono ?_; rintro e w' ⟨rfl, rfl⟩))
                    all_goals (go_meet; exact ⟨by rw [← HG.out]; first | rfl | (simp [*]; done), rfl⟩)
                  · skip
                    have g2 : hp ≤ 65536 := of_decide_eq_true h2
                    go_wp2_with (first | (go_at_call 51; first | (with_reducible refine (N1.out _).mono ?_; rintro e w' ⟨rfl, rfl⟩) | (with_reducible refine (N2.out _).mono ?_; rintro e w' ⟨rfl, rfl⟩) | (with_reducible refine (N3.out _).mono ?_; rintro e w' ⟨rfl, rfl⟩) | (with_reducible refine (N4.out _).mono ?_; rintro e w' ⟨rfl, rfl⟩) | (with_reducible refine (N5.out _).mono ?_; rintro e w' ⟨rfl, rfl⟩) | (with_reducible refine (N6.out _).mono ?_; rintro e w' ⟨rfl, rfl⟩)) | (go_at_call 52; refine (HN.out _).mono ?_; rintro e w' ⟨rfl, rfl⟩))
                    all_goals (go_meet; exact ⟨by rw [← HG.out]; first | rfl | (simp [*]; done), rfl⟩)
            · obtain rfl : hm = 0 := eq_of_beq h4
              clear h4
              cases h1 : (decide (0 ≤ hp))
              · skip
                have g1 : ¬ 0 ≤ hp := of_decide_eq_false h1
                go_wp2_with (first | (go_at_call 51; first | (with_reducible refine (N1.out _).mono ?_; rintro e w' ⟨rfl, rfl⟩) | (with_reducible refine (N2.out _).mono ?_; rintro e w' ⟨rfl, rfl⟩) | (with_reducible refine (N3.out _).mono ?_; rintro e w' ⟨rfl, rfl⟩) | (with_reducible refine (N4.out _).mono ?_; rintro e w' ⟨rfl, rfl⟩) | (with_reducible refine (N5.out _).mono ?_; rintro e w' ⟨rfl, rfl⟩) | (with_reducible refine (N6.out _).mono ?_; rintro e w' ⟨rfl, rfl⟩)) | (go_at_call 52; refine (HN.out _).mono ?_; rintro e w' ⟨rfl, rfl⟩))
                all_goals (go_meet; exact ⟨by rw [← HG.out]; first | rfl | (simp [*]; done), rfl⟩)
              · skip
                have g1 : 0 ≤ hp := of_decide_eq_true h1
                cases h2 : (decide (hp ≤ 65536))
                · skip
                  have g2 : ¬ hp ≤ 65536 := of_decide_eq_false h2
                  go_wp2_with (first | (go_at_call 51; first | (with_reducible refine (N1.out _).mono ?_; rintro e w' ⟨rfl, rfl⟩) | (with_reducible refine (N2.out _).mono ?_; rintro e w' ⟨rfl, rfl⟩) | (with_reducible refine (N3.out _).mono ?_; rintro e w' ⟨rfl, rfl⟩) | (with_reducible refine (N4.out _).mono ?_; rintro e w' ⟨rfl, rfl⟩) | (with_reducible refine (N5.out _).mono ?_; rintro e w' ⟨rfl, rfl⟩) | (with_reducible refine (N6.out _).mono ?_; rintro e w' ⟨rfl, rfl⟩)) | (go_at_call 52; refine (HN.out _).mono ?_; rintro e w' ⟨rfl, rfl⟩))
                  all_goals (go_meet; exact ⟨by rw [← HG.out]; first | rfl | (simp [*]; done), rfl⟩)
                · skip
                  have g2 : hp ≤ 65536 := of_decide_eq_true h2
                  go_wp2_with (first | (go_at_call 51; first | (with_reducible refine (N1.out _).mono ?_; rintro e w' ⟨rfl, rfl⟩) | (with_reducible refine (N2.out _).mono ?_; rintro e w' ⟨rfl, rfl⟩) | (with_reducible refine (N3.out _).mono ?_; rintro e w' ⟨rfl, rfl⟩) | (with_reducible refine (N4.out _).mono ?_; rintro e w' ⟨rfl, rfl⟩) | (with_reducible refine (N5.out _).mono ?_; rintro e w' ⟨rfl, rfl⟩) | (with_reducible refine (N6.out _).mono ?_; rintro e w' ⟨rfl, rfl⟩)) | (go_at_call 52; refine (HN.out _).mono ?_; rintro e w' ⟨rfl, rfl⟩))
                  all_goals (go_meet; exact ⟨by rw [← HG.out]; first | rfl | (simp [*]; done), rfl⟩)
        · obtain rfl : bk = 0 := eq_of_beq h3
          clear h3
          cases h4 : (hm == 0)
          · have nh4 : ¬ hm = 0 := fun e => by subst e; cases h4
            have bh4 : (hm != 0) = true := by rw [bne, h4]; rfl
            cases E
            · skip
              go_wp2_with (first | (go_at_call 51; first | (with_reducible refine (N1.out _).mono ?_; rintro e w' ⟨rfl, rfl⟩) | (with_reducible refine (N2.out _).mono ?_; rintro e w' ⟨rfl, rfl⟩) | (with_reducible refine (N3.out _).mono ?_; rintro e w' ⟨rfl, rfl⟩) | (with_reducible refine (N4.out _).mono ?_; rintro e w' ⟨rfl, rfl⟩) | (with_reducible refine (N5.out _).mono ?_; rintro e w' ⟨rfl, rfl⟩) | (with_reducible refine (N6.out _).mono ?_; rintro e w' ⟨rfl, rfl⟩)) | (go_at_call 52; refine (HN.out _).mono ?_; rintro e w' ⟨rfl, rfl⟩))
              all_goals (go_meet; exact ⟨by rw [← HG.out]; first | rfl | (simp [*]; done), rfl⟩)
            · skip
              cases h1 : (decide (0 ≤ hp))
              · skip
                have g1 : ¬ 0 ≤ hp := of_decide_eq_false h1
                go_wp2_with (first | (go_at_call 51; first | (with_reducible refine (N1.out _).mono ?_; rintro e w' ⟨rfl, rfl⟩) | (with_reducible refine (N2.out _).mono ?_; rintro e w' ⟨rfl, rfl⟩) | (with_reducible refine (N3.out _).mono ?_; rintro e w' ⟨rfl, rfl⟩) | (with_reducible refine (N4.out _).mono ?_; rintro e w' ⟨rfl, rfl⟩) | (with_reducible refine (N5.out _).mono ?_; rintro e w' ⟨rfl, rfl⟩) | (with_reducible refine (N6.out _).mono ?_; rintro e w' ⟨rfl, rfl⟩)) | (go_at_call 52; refine (HN.out _).mono ?_; rintro e w' ⟨rfl, rfl⟩))
                all_goals (go_meet; exact ⟨by rw [← HG.out]; first | rfl | (simp [*]; done), rfl⟩)
              · skip
                have g1 : 0 ≤ hp := of_decide_eq_true h1
                cases h2 : (decide (hp ≤ 65536))
                · skip
                  have g2 : ¬ hp ≤ 65536 := of_decide_eq_false h2
                  go_wp2_with (first | (go_at_call 51; first | (with_reducible refine (N1.out _).mono ?_; rintro e w' ⟨rfl, rfl⟩) | (with_reducible refine (N2.out _).mono ?_; rintro e w' ⟨rfl, rfl⟩) | (with_reducible refine (N3.out _).mono ?_; rintro e w' ⟨rfl, rfl⟩) | (with_reducible refine (N4.out _).mono ?_; rintro e w' ⟨rfl, rfl⟩) | (with_reducible refine (N5.out _).mono ?_; rintro e w' ⟨rfl, rfl⟩) | (with_reducible refine (N6.out _).mono ?_; rintro e w' ⟨rfl, rfl⟩)) | (go_at_call 52; refine (HN.out _).mono ?_; rintro e w' ⟨rfl, rfl⟩))
                  all_goals (go_meet; exact ⟨by rw [← HG.out]; first | rfl | (simp [*]; done), rfl⟩)
                · skip
                  have g2 : hp ≤ 65536 := of_decide_eq_true h2
                  go_wp2_with (first | (go_at_call 51; first | (with_reducible refine (N1.out _).mono ?_; rintro e w' ⟨rfl, rfl⟩) | (with_reducible refine (N2.out _).mono ?_; rintro e w' ⟨rfl, rfl⟩) | (with_reducible refine (N3.out _).mono ?_; rintro e w' ⟨rfl, rfl⟩) | (with_reducible refine (N4.out _).mono ?_; rintro e w' ⟨rfl, rfl⟩) | (with_reducible refine (N5.out _).mono ?_; rintro e w' ⟨rfl, rfl⟩) | (with_reducible refine (N6.out _).mono ?_; rintro e w' ⟨rfl, rfl⟩)) | (go_at_call 52; refine (HN.out _).mono ?_; rintro e w' ⟨rfl, rfl⟩))
                  all_goals (go_meet; exact ⟨by rw [← HG.out]; first | rfl | (simp [*]; done), rfl⟩)
          · obtain rfl : hm = 0 := eq_of_beq h4
            clear h4
            cases h1 : (decide (0 ≤ hp))
            · skip
              have g1 : ¬ 0 ≤ hp := of_decide_eq_false h1
              go_wp2_with (first | (go_at_call 51; first | (with_reducible refine (N1.out _).mono ?_; rintro e w' ⟨rfl, rfl⟩) | (with_reducible refine (N2.out _).mono ?_; rintro e w' ⟨rfl, rfl⟩) | (with_reducible refine (N3.out _).mono ?_; rintro e w' ⟨rfl, rfl⟩) | (with_reducible refine (N4.out _).mono ?_; rintro e w' ⟨rfl, rfl⟩) | (with_reducible refine (N5.out _).mono ?_; rintro e w' ⟨rfl, rfl⟩) | (with_reducible refine (N6.out _).mono ?_; rintro e w' ⟨rfl, rfl⟩)) | (go_at_call 52; refine (HN.out _).mono ?_; rintro e w' ⟨rfl, rfl⟩))
              all_goals (go_meet; exact ⟨by rw [← HG.out]; first | rfl | (simp [*]; done), rfl⟩)
            · skip
              have g1 : 0 ≤ hp := of_decide_eq_true h1
              cases h2 : (decide (hp ≤ 65536))
              · skip
                have g2 : ¬ hp ≤ 65536 := of_decide_eq_false h2
                go_wp2_with (first | (go_at_call 51; first | (with_reducible refine (N1.out _).mono ?_; rintro e w' ⟨rfl, rfl⟩) | (with_reducible refine (N2.out _).mono ?_; rintro e w' ⟨rfl, rfl⟩) | (with_reducible refine (N3.out _).mono ?_; rintro e w' ⟨rfl, rfl⟩) | (with_reducible refine (N4.out _).mono ?_; rintro e w' ⟨rfl, rfl⟩) | (with_reducible refine (N5.out _).mono ?_; rintro e w' ⟨rfl, rfl⟩) | (with_reducible refine (N6.out _).mono ?_; rintro e w' ⟨rfl, rfl⟩)) | (go_at_call 52; refine (HN.out _).mono ?_; rintro e w' ⟨rfl, rfl⟩))
                all_goals (go_meet; exact ⟨by rw [← HG.out]; first | rfl | (simp [*]; done), rfl⟩)
              · skip
                have g2 : hp ≤ 65536 := of_decide_eq_true h2
                go_wp2_with (first | (go_at_call 51; first | (with_reducible refine (N1.out _).mono ?_; rintro e w' ⟨rfl, rfl⟩) | (with_reducible refine (N2.out _).mono ?_; rintro e w' ⟨rfl, rfl⟩) | (with_reducible refine (N3.out _).mono ?_; rintro e w' ⟨rfl, rfl⟩) | (with_reducible refine (N4.out _).mono ?_; rintro e w' ⟨rfl, rfl⟩) | (with_reducible refine (N5.out _).mono ?_; rintro e w' ⟨rfl, rfl⟩) | (with_reducible refine (N6.out _).mono ?_; rintro e w' ⟨rfl, rfl⟩)) | (go_at_call 52; refine (HN.out _).mono ?_; rintro e w' ⟨rfl, rfl⟩))
                all_goals (go_meet; exact ⟨by rw [← HG.out]; first | rfl | (simp [*]; done), rfl⟩)
  case rest =>
    obtain ⟨rfl, rfl⟩ := hcut
    clear N1 N2 N3 N4
    clear HG
    cases G
    · skip
      go_wp2_with (first | (go_at_call 51; first | (with_reducible refine (N1.out _).mono ?_; rintro e w' ⟨rfl, rfl⟩) | (with_reducible refine (N2.out _).mono ?_; rintro e w' ⟨rfl, rfl⟩) | (with_reducible refine (N3.out _).mono ?_; rintro e w' ⟨rfl, rfl⟩) | (with_reducible refine (N4.out _).mono ?_; rintro e w' ⟨rfl, rfl⟩) | (with_reducible refine (N5.out _).mono ?_; rintro e w' ⟨rfl, rfl⟩) | (with_reducible refine (N6.out _).mono ?_; rintro e w' ⟨rfl, rfl⟩)) | (go_at_call 52; refine (HN.out _).mono ?_; rintro e w' ⟨rfl, rfl⟩))
      all_goals (go_ret; refine ⟨ret_bool ?_, ?_⟩)
      all_goals (first | exact below_al _ _ | exact below_nx (below_al _ _) hb3 | rfl | (simp [*]; done) | (exact below_nx (below_nx (below_al _ _) hb3) hb4))
    · skip
      go_upto_region 3 with (fail)
      go_cut [3] (fun x wx => x = .bool P ∧ wx = w.alloc (.cells #[.int .i64 kd, .int .i64 fr, .int .i64 bk, .int .i64 tw, .int .i64 hm, .int .i64 hp, .int .u64 (sr : Int), .int .i64 cd, .string nm, .int .i64 id, .int .i64 at_, .string bd] 25))
      case first =>
        cases I
        · skip
          go_wp2_with (first | (go_at_call 51; first | (with_reducible refine (N1.out _).mono ?_; rintro e w' ⟨rfl, rfl⟩) | (with_reducible refine (N2.out _).mono ?_; rintro e w' ⟨rfl, rfl⟩) | (with_reducible refine (N3.out _).mono ?_; rintro e w' ⟨rfl, rfl⟩) | (with_reducible refine (N4.out _).mono ?_; rintro e w' ⟨rfl, rfl⟩) | (with_reducible refine (N5.out _).mono ?_; rintro e w' ⟨rfl, rfl⟩) | (with_reducible refine (N6.out _).mono ?_; rintro e w' ⟨rfl, rfl⟩)) | (go_at_call 52; refine (HN.out _).mono ?_; rintro e w' ⟨rfl, rfl⟩))
          all_goals (go_meet; exact ⟨by rw [← HP.out]; first | rfl | (simp [*]; done), rfl⟩)
        · cases ha : (at_ == 0)
          · cases T
            · skip
              go_wp2_with (first | (go_at_call 51; first | (with_reducible refine (N1.out _).mono ?_; rintro e w' ⟨rfl, rfl⟩) | (with_reducible refine (N2.out _).mono ?_; rintro e w' ⟨rfl, rfl⟩) | (with_reducible refine (N3.out _).mono ?_; rintro e w' ⟨rfl, rfl⟩) | (with_reducible refine (N4.out _).mono ?_; rintro e w' ⟨rfl, rfl⟩) | (with_reducible refine (N5.out _).mono ?_; rintro e w' ⟨rfl, rfl⟩) | (with_reducible refine (N6.out _).mono ?_; rintro e w' ⟨rfl, rfl⟩)) | (go_at_call 52; refine (HN.out _).mono ?_; rintro e w' ⟨rfl, rfl⟩))
              all_goals (go_meet; exact ⟨by rw [← HP.out]; first | rfl | (simp [*]; done), rfl⟩)
            · skip
              go_wp2_with (first | (go_at_call 51; first | (with_reducible refine (N1.out _).mono ?_; rintro e w' ⟨rfl, rfl⟩) | (with_reducible refine (N2.out _).mono ?_; rintro e w' ⟨rfl, rfl⟩) | (with_reducible refine (N3.out _).mono ?_; rintro e w' ⟨rfl, rfl⟩) | (with_reducible refine (N4.out _).mono ?_; rintro e w' ⟨rfl, rfl⟩) | (with_reducible refine (N5.out _).mono ?_; rintro e w' ⟨rfl, rfl⟩) | (with_reducible refine (N6.out _).mono ?_; rintro e w' ⟨rfl, rfl⟩)) | (go_at_call 52; refine (HN.out _).mono ?_; rintro e w' ⟨rfl, rfl⟩))
              all_goals (go_meet; exact ⟨by rw [← HP.out]; first | rfl | (simp [*]; done), rfl⟩)
          · obtain rfl : at_ = 0 := eq_of_beq ha
            clear ha
            go_wp2_with (first | (go_at_call 51; first | (with_reducible refine (N1.out _).mono ?_; rintro e w' ⟨rfl, rfl⟩) | (with_reducible refine (N2.out _).mono ?_; rintro e w' ⟨rfl, rfl⟩) | (with_reducible refine (N3.out _).mono ?_; rintro e w' ⟨rfl, rfl⟩) | (with_reducible refine (N4.out _).mono ?_; rintro e w' ⟨rfl, rfl⟩) | (with_reducible refine (N5.out _).mono ?_; rintro e w' ⟨rfl, rfl⟩) | (with_reducible refine (N6.out _).mono ?_; rintro e w' ⟨rfl, rfl⟩)) | (go_at_call 52; refine (HN.out _).mono ?_; rintro e w' ⟨rfl, rfl⟩))
            all_goals (go_meet; exact ⟨by rw [← HP.out]; first | rfl | (simp [*]; done), rfl⟩)
      case rest =>
        obtain ⟨rfl, rfl⟩ := hcut
        go_upto_region 4 with (fail)
        go_cut [4] (fun x wx => x = .bool Z ∧ wx = w.alloc (.cells #[.int .i64 kd, .int .i64 fr, .int .i64 bk, .int .i64 tw, .int .i64 hm, .int .i64 hp, .int .u64 (sr : Int), .int .i64 cd, .string nm, .int .i64 id, .int .i64 at_, .string bd] 25))
        case first =>
          cases hi : (id == 0)
          · skip
            go_wp2_with (first | (go_at_call 51; first | (with_reducible refine (N1.out _).mono ?_; rintro e w' ⟨rfl, rfl⟩) | (with_reducible refine (N2.out _).mono ?_; rintro e w' ⟨rfl, rfl⟩) | (with_reducible refine (N3.out _).mono ?_; rintro e w' ⟨rfl, rfl⟩) | (with_reducible refine (N4.out _).mono ?_; rintro e w' ⟨rfl, rfl⟩) | (with_reducible refine (N5.out _).mono ?_; rintro e w' ⟨rfl, rfl⟩) | (with_reducible refine (N6.out _).mono ?_; rintro e w' ⟨rfl, rfl⟩)) | (go_at_call 52; refine (HN.out _).mono ?_; rintro e w' ⟨rfl, rfl⟩))
            all_goals (go_meet; exact ⟨by rw [← HZ.out]; first | rfl | (simp [*]; done), rfl⟩)
          · obtain rfl : id = 0 := eq_of_beq hi
            clear hi
            cases ha : (at_ == 0)
            · skip
              go_wp2_with (first | (go_at_call 51; first | (with_reducible refine (N1.out _).mono ?_; rintro e w' ⟨rfl, rfl⟩) | (with_reducible refine (N2.out _).mono ?_; rintro e w' ⟨rfl, rfl⟩) | (with_reducible refine (N3.out _).mono ?_; rintro e w' ⟨rfl, rfl⟩) | (with_reducible refine (N4.out _).mono ?_; rintro e w' ⟨rfl, rfl⟩) | (with_reducible refine (N5.out _).mono ?_; rintro e w' ⟨rfl, rfl⟩) | (with_reducible refine (N6.out _).mono ?_; rintro e w' ⟨rfl, rfl⟩)) | (go_at_call 52; refine (HN.out _).mono ?_; rintro e w' ⟨rfl, rfl⟩))
              all_goals (go_meet; exact ⟨by rw [← HZ.out]; first | rfl | (simp [*]; done), rfl⟩)
            · obtain rfl : at_ = 0 := eq_of_beq ha
              clear ha
              go_wp2_with (first | (go_at_call 51; first | (with_reducible refine (N1.out _).mono ?_; rintro e w' ⟨rfl, rfl⟩) | (with_reducible refine (N2.out _).mono ?_; rintro e w' ⟨rfl, rfl⟩) | (with_reducible refine (N3.out _).mono ?_; rintro e w' ⟨rfl, rfl⟩) | (with_reducible refine (N4.out _).mono ?_; rintro e w' ⟨rfl, rfl⟩) | (with_reducible refine (N5.out _).mono ?_; rintro e w' ⟨rfl, rfl⟩) | (with_reducible refine (N6.out _).mono ?_; rintro e w' ⟨rfl, rfl⟩)) | (go_at_call 52; refine (HN.out _).mono ?_; rintro e w' ⟨rfl, rfl⟩))
              all_goals (go_meet; exact ⟨by rw [← HZ.out]; first | rfl | (simp [*]; done), rfl⟩)
        case rest =>
          obtain ⟨rfl, rfl⟩ := hcut
          clear N5 N6 HP HZ
          cases k1 : (kd == 1)
          · cases k2 : (kd == 2)
            · cases k3 : (kd == 3)
              · cases k4 : (kd == 4)
                · skip
                  go_wp2_with (first | (go_at_call 51; first | (with_reducible refine (N1.out _).mono ?_; rintro e w' ⟨rfl, rfl⟩) | (with_reducible refine (N2.out _).mono ?_; rintro e w' ⟨rfl, rfl⟩) | (with_reducible refine (N3.out _).mono ?_; rintro e w' ⟨rfl, rfl⟩) | (with_reducible refine (N4.out _).mono ?_; rintro e w' ⟨rfl, rfl⟩) | (with_reducible refine (N5.out _).mono ?_; rintro e w' ⟨rfl, rfl⟩) | (with_reducible refine (N6.out _).mono ?_; rintro e w' ⟨rfl, rfl⟩)) | (go_at_call 52; refine (HN.out _).mono ?_; rintro e w' ⟨rfl, rfl⟩))
                  all_goals (go_ret; refine ⟨ret_bool ?_, ?_⟩)
                  all_goals (first | exact below_al _ _ | exact below_nx (below_al _ _) hb3 | rfl | (simp [*]; done) | (exact below_nx (below_nx (below_al _ _) hb3) hb4))
                · cases N
                  · skip
                    go_wp2_with (first | (go_at_call 51; first | (with_reducible refine (N1.out _).mono ?_; rintro e w' ⟨rfl, rfl⟩) | (with_reducible refine (N2.out _).mono ?_; rintro e w' ⟨rfl, rfl⟩) | (with_reducible refine (N3.out _).mono ?_; rintro e w' ⟨rfl, rfl⟩) | (with_reducible refine (N4.out _).mono ?_; rintro e w' ⟨rfl, rfl⟩) | (with_reducible refine (N5.out _).mono ?_; rintro e w' ⟨rfl, rfl⟩) | (with_reducible refine (N6.out _).mono ?_; rintro e w' ⟨rfl, rfl⟩)) | (go_at_call 52; refine (HN.out _).mono ?_; rintro e w' ⟨rfl, rfl⟩))
                    all_goals (go_ret; refine ⟨ret_bool ?_, ?_⟩)
                    all_goals (first | exact below_al _ _ | exact below_nx (below_al _ _) hb3 | rfl | (simp [*]; done) | (exact below_nx (below_nx (below_al _ _) hb3) hb4))
                  · skip
                    cases e2 : bd.toList.isEmpty
                    · skip
                      have e2' : ¬ bd.toList = [] := fun e => by rw [e] at e2; cases e2
                      go_wp2_with (first | (go_at_call 51; first | (with_reducible refine (N1.out _).mono ?_; rintro e w' ⟨rfl, rfl⟩) | (with_reducible refine (N2.out _).mono ?_; rintro e w' ⟨rfl, rfl⟩) | (with_reducible refine (N3.out _).mono ?_; rintro e w' ⟨rfl, rfl⟩) | (with_reducible refine (N4.out _).mono ?_; rintro e w' ⟨rfl, rfl⟩) | (with_reducible refine (N5.out _).mono ?_; rintro e w' ⟨rfl, rfl⟩) | (with_reducible refine (N6.out _).mono ?_; rintro e w' ⟨rfl, rfl⟩)) | (go_at_call 52; refine (HN.out _).mono ?_; rintro e w' ⟨rfl, rfl⟩))
                      all_goals (go_ret; refine ⟨ret_bool ?_, ?_⟩)
                      all_goals (first | exact below_al _ _ | exact below_nx (below_al _ _) hb3 | rfl | (simp [*]; done) | (exact below_nx (below_nx (below_al _ _) hb3) hb4))
                    · skip
                      have e2' : bd.toList = [] := List.isEmpty_iff.1 e2
                      cases h0 : (cd == 0)
                      · cases h1 : (cd == 1)
                        · skip
                          go_wp2_with (first | (go_at_call 51; first | (with_reducible refine (N1.out _).mono ?_; rintro e w' ⟨rfl, rfl⟩) | (with_reducible refine (N2.out _).mono ?_; rintro e w' ⟨rfl, rfl⟩) | (with_reducible refine (N3.out _).mono ?_; rintro e w' ⟨rfl, rfl⟩) | (with_reducible refine (N4.out _).mono ?_; rintro e w' ⟨rfl, rfl⟩) | (with_reducible refine (N5.out _).mono ?_; rintro e w' ⟨rfl, rfl⟩) | (with_reducible refine (N6.out _).mono ?_; rintro e w' ⟨rfl, rfl⟩)) | (go_at_call 52; refine (HN.out _).mono ?_; rintro e w' ⟨rfl, rfl⟩))
                          all_goals (go_ret; refine ⟨ret_bool ?_, ?_⟩)
                          all_goals (first | exact below_al _ _ | exact below_nx (below_al _ _) hb3 | rfl | (simp [*]; done) | (exact below_nx (below_nx (below_al _ _) hb3) hb4))
                        · cases Z
                          · skip
                            go_wp2_with (first | (go_at_call 51; first | (with_reducible refine (N1.out _).mono ?_; rintro e w' ⟨rfl, rfl⟩) | (with_reducible refine (N2.out _).mono ?_; rintro e w' ⟨rfl, rfl⟩) | (with_reducible refine (N3.out _).mono ?_; rintro e w' ⟨rfl, rfl⟩) | (with_reducible refine (N4.out _).mono ?_; rintro e w' ⟨rfl, rfl⟩) | (with_reducible refine (N5.out _).mono ?_; rintro e w' ⟨rfl, rfl⟩) | (with_reducible refine (N6.out _).mono ?_; rintro e w' ⟨rfl, rfl⟩)) | (go_at_call 52; refine (HN.out _).mono ?_; rintro e w' ⟨rfl, rfl⟩))
                            all_goals (go_ret; refine ⟨ret_bool ?_, ?_⟩)
                            all_goals (first | exact below_al _ _ | exact below_nx (below_al _ _) hb3 | rfl | (simp [*]; done) | (exact below_nx (below_nx (below_al _ _) hb3) hb4))
                          · skip
                            go_wp2_with (first | (go_at_call 51; first | (with_reducible refine (N1.out _).mono ?_; rintro e w' ⟨rfl, rfl⟩) | (with_reducible refine (N2.out _).mono ?_; rintro e w' ⟨rfl, rfl⟩) | (with_reducible refine (N3.out _).mono ?_; rintro e w' ⟨rfl, rfl⟩) | (with_reducible refine (N4.out _).mono ?_; rintro e w' ⟨rfl, rfl⟩) | (with_reducible refine (N5.out _).mono ?_; rintro e w' ⟨rfl, rfl⟩) | (with_reducible refine (N6.out _).mono ?_; rintro e w' ⟨rfl, rfl⟩)) | (go_at_call 52; refine (HN.out _).mono ?_; rintro e w' ⟨rfl, rfl⟩))
                            all_goals (go_ret; refine ⟨ret_bool ?_, ?_⟩)
                            all_goals (first | exact below_al _ _ | exact below_nx (below_al _ _) hb3 | rfl | (simp [*]; done) | (exact below_nx (below_nx (below_al _ _) hb3) hb4))
                      · have h1 : (cd == 1) = false := by have := eq_of_beq h0; subst this; rfl
                        cases P
                        · skip
                          go_wp2_with (first | (go_at_call 51; first | (with_reducible refine (N1.out _).mono ?_; rintro e w' ⟨rfl, rfl⟩) | (with_reducible refine (N2.out _).mono ?_; rintro e w' ⟨rfl, rfl⟩) | (with_reducible refine (N3.out _).mono ?_; rintro e w' ⟨rfl, rfl⟩) | (with_reducible refine (N4.out _).mono ?_; rintro e w' ⟨rfl, rfl⟩) | (with_reducible refine (N5.out _).mono ?_; rintro e w' ⟨rfl, rfl⟩) | (with_reducible refine (N6.out _).mono ?_; rintro e w' ⟨rfl, rfl⟩)) | (go_at_call 52; refine (HN.out _).mono ?_; rintro e w' ⟨rfl, rfl⟩))
                          all_goals (go_ret; refine ⟨ret_bool ?_, ?_⟩)
                          all_goals (first | exact below_al _ _ | exact below_nx (below_al _ _) hb3 | rfl | (simp [*]; done) | (exact below_nx (below_nx (below_al _ _) hb3) hb4))
                        · skip
                          go_wp2_with (first | (go_at_call 51; first | (with_reducible refine (N1.out _).mono ?_; rintro e w' ⟨rfl, rfl⟩) | (with_reducible refine (N2.out _).mono ?_; rintro e w' ⟨rfl, rfl⟩) | (with_reducible refine (N3.out _).mono ?_; rintro e w' ⟨rfl, rfl⟩) | (with_reducible refine (N4.out _).mono ?_; rintro e w' ⟨rfl, rfl⟩) | (with_reducible refine (N5.out _).mono ?_; rintro e w' ⟨rfl, rfl⟩) | (with_reducible refine (N6.out _).mono ?_; rintro e w' ⟨rfl, rfl⟩)) | (go_at_call 52; refine (HN.out _).mono ?_; rintro e w' ⟨rfl, rfl⟩))
                          all_goals (go_ret; refine ⟨ret_bool ?_, ?_⟩)
                          all_goals (first | exact below_al _ _ | exact below_nx (below_al _ _) hb3 | rfl | (simp [*]; done) | (exact below_nx (below_nx (below_al _ _) hb3) hb4))
              · skip
                cases h0 : (cd == 0)
                · skip
                  go_wp2_with (first | (go_at_call 51; first | (with_reducible refine (N1.out _).mono ?_; rintro e w' ⟨rfl, rfl⟩) | (with_reducible refine (N2.out _).mono ?_; rintro e w' ⟨rfl, rfl⟩) | (with_reducible refine (N3.out _).mono ?_; rintro e w' ⟨rfl, rfl⟩) | (with_reducible refine (N4.out _).mono ?_; rintro e w' ⟨rfl, rfl⟩) | (with_reducible refine (N5.out _).mono ?_; rintro e w' ⟨rfl, rfl⟩) | (with_reducible refine (N6.out _).mono ?_; rintro e w' ⟨rfl, rfl⟩)) | (go_at_call 52; refine (HN.out _).mono ?_; rintro e w' ⟨rfl, rfl⟩))
                  all_goals (go_ret; refine ⟨ret_bool ?_, ?_⟩)
                  all_goals (first | exact below_al _ _ | exact below_nx (below_al _ _) hb3 | rfl | (simp [*]; done) | (exact below_nx (below_nx (below_al _ _) hb3) hb4))
                · skip
                  cases N
                  · skip
                    go_wp2_with (first | (go_at_call 51; first | (with_reducible refine (N1.out _).mono ?_; rintro e w' ⟨rfl, rfl⟩) | (with_reducible refine (N2.out _).mono ?_; rintro e w' ⟨rfl, rfl⟩) | (with_reducible refine (N3.out _).mono ?_; rintro e w' ⟨rfl, rfl⟩) | (with_reducible refine (N4.out _).mono ?_; rintro e w' ⟨rfl, rfl⟩) | (with_reducible refine (N5.out _).mono ?_; rintro e w' ⟨rfl, rfl⟩) | (with_reducible refine (N6.out _).mono ?_; rintro e w' ⟨rfl, rfl⟩)) | (go_at_call 52; refine (HN.out _).mono ?_; rintro e w' ⟨rfl, rfl⟩))
                    all_goals (go_ret; refine ⟨ret_bool ?_, ?_⟩)
                    all_goals (first | exact below_al _ _ | exact below_nx (below_al _ _) hb3 | rfl | (simp [*]; done) | (exact below_nx (below_nx (below_al _ _) hb3) hb4))
                  · skip
                    cases Z
                    · skip
                      go_wp2_with (first | (go_at_call 51; first | (with_reducible refine (N1.out _).mono ?_; rintro e w' ⟨rfl, rfl⟩) | (with_reducible refine (N2.out _).mono ?_; rintro e w' ⟨rfl, rfl⟩) | (with_reducible refine (N3.out _).mono ?_; rintro e w' ⟨rfl, rfl⟩) | (with_reducible refine (N4.out _).mono ?_; rintro e w' ⟨rfl, rfl⟩) | (with_reducible refine (N5.out _).mono ?_; rintro e w' ⟨rfl, rfl⟩) | (with_reducible refine (N6.out _).mono ?_; rintro e w' ⟨rfl, rfl⟩)) | (go_at_call 52; refine (HN.out _).mono ?_; rintro e w' ⟨rfl, rfl⟩))
                      all_goals (go_ret; refine ⟨ret_bool ?_, ?_⟩)
                      all_goals (first | exact below_al _ _ | exact below_nx (below_al _ _) hb3 | rfl | (simp [*]; done) | (exact below_nx (below_nx (below_al _ _) hb3) hb4))
                    · skip
                      cases e2 : bd.toList.isEmpty
                      · skip
                        have e2' : ¬ bd.toList = [] := fun e => by rw [e] at e2; cases e2
                        go_wp2_with (first | (go_at_call 51; first | (with_reducible refine (N1.out _).mono ?_; rintro e w' ⟨rfl, rfl⟩) | (with_reducible refine (N2.out _).mono ?_; rintro e w' ⟨rfl, rfl⟩) | (with_reducible refine (N3.out _).mono ?_; rintro e w' ⟨rfl, rfl⟩) | (with_reducible refine (N4.out _).mono ?_; rintro e w' ⟨rfl, rfl⟩) | (with_reducible refine (N5.out _).mono ?_; rintro e w' ⟨rfl, rfl⟩) | (with_reducible refine (N6.out _).mono ?_; rintro e w' ⟨rfl, rfl⟩)) | (go_at_call 52; refine (HN.out _).mono ?_; rintro e w' ⟨rfl, rfl⟩))
                        all_goals (go_ret; refine ⟨ret_bool ?_, ?_⟩)
                        all_goals (first | exact below_al _ _ | exact below_nx (below_al _ _) hb3 | rfl | (simp [*]; done) | (exact below_nx (below_nx (below_al _ _) hb3) hb4))
                      · skip
                        have e2' : bd.toList = [] := List.isEmpty_iff.1 e2
                        go_wp2_with (first | (go_at_call 51; first | (with_reducible refine (N1.out _).mono ?_; rintro e w' ⟨rfl, rfl⟩) | (with_reducible refine (N2.out _).mono ?_; rintro e w' ⟨rfl, rfl⟩) | (with_reducible refine (N3.out _).mono ?_; rintro e w' ⟨rfl, rfl⟩) | (with_reducible refine (N4.out _).mono ?_; rintro e w' ⟨rfl, rfl⟩) | (with_reducible refine (N5.out _).mono ?_; rintro e w' ⟨rfl, rfl⟩) | (with_reducible refine (N6.out _).mono ?_; rintro e w' ⟨rfl, rfl⟩)) | (go_at_call 52; refine (HN.out _).mono ?_; rintro e w' ⟨rfl, rfl⟩))
                        all_goals (go_ret; refine ⟨ret_bool ?_, ?_⟩)
                        all_goals (first | exact below_al _ _ | exact below_nx (below_al _ _) hb3 | rfl | (simp [*]; done) | (exact below_nx (below_nx (below_al _ _) hb3) hb4))
            · skip
              cases h0 : (cd == 0)
              · skip
                go_wp2_with (first | (go_at_call 51; first | (with_reducible refine (N1.out _).mono ?_; rintro e w' ⟨rfl, rfl⟩) | (with_reducible refine (N2.out _).mono ?_; rintro e w' ⟨rfl, rfl⟩) | (with_reducible refine (N3.out _).mono ?_; rintro e w' ⟨rfl, rfl⟩) | (with_reducible refine (N4.out _).mono ?_; rintro e w' ⟨rfl, rfl⟩) | (with_reducible refine (N5.out _).mono ?_; rintro e w' ⟨rfl, rfl⟩) | (with_reducible refine (N6.out _).mono ?_; rintro e w' ⟨rfl, rfl⟩)) | (go_at_call 52; refine (HN.out _).mono ?_; rintro e w' ⟨rfl, rfl⟩))
                all_goals (go_ret; refine ⟨ret_bool ?_, ?_⟩)
                all_goals (first | exact below_al _ _ | exact below_nx (below_al _ _) hb3 | rfl | (simp [*]; done) | (exact below_nx (below_nx (below_al _ _) hb3) hb4))
              · skip
                cases N
                · skip
                  go_wp2_with (first | (go_at_call 51; first | (with_reducible refine (N1.out _).mono ?_; rintro e w' ⟨rfl, rfl⟩) | (with_reducible refine (N2.out _).mono ?_; rintro e w' ⟨rfl, rfl⟩) | (with_reducible refine (N3.out _).mono ?_; rintro e w' ⟨rfl, rfl⟩) | (with_reducible refine (N4.out _).mono ?_; rintro e w' ⟨rfl, rfl⟩) | (with_reducible refine (N5.out _).mono ?_; rintro e w' ⟨rfl, rfl⟩) | (with_reducible refine (N6.out _).mono ?_; rintro e w' ⟨rfl, rfl⟩)) | (go_at_call 52; refine (HN.out _).mono ?_; rintro e w' ⟨rfl, rfl⟩))
                  all_goals (go_ret; refine ⟨ret_bool ?_, ?_⟩)
                  all_goals (first | exact below_al _ _ | exact below_nx (below_al _ _) hb3 | rfl | (simp [*]; done) | (exact below_nx (below_nx (below_al _ _) hb3) hb4))
                · skip
                  cases P
                  · skip
                    go_wp2_with (first | (go_at_call 51; first | (with_reducible refine (N1.out _).mono ?_; rintro e w' ⟨rfl, rfl⟩) | (with_reducible refine (N2.out _).mono ?_; rintro e w' ⟨rfl, rfl⟩) | (with_reducible refine (N3.out _).mono ?_; rintro e w' ⟨rfl, rfl⟩) | (with_reducible refine (N4.out _).mono ?_; rintro e w' ⟨rfl, rfl⟩) | (with_reducible refine (N5.out _).mono ?_; rintro e w' ⟨rfl, rfl⟩) | (with_reducible refine (N6.out _).mono ?_; rintro e w' ⟨rfl, rfl⟩)) | (go_at_call 52; refine (HN.out _).mono ?_; rintro e w' ⟨rfl, rfl⟩))
                    all_goals (go_ret; refine ⟨ret_bool ?_, ?_⟩)
                    all_goals (first | exact below_al _ _ | exact below_nx (below_al _ _) hb3 | rfl | (simp [*]; done) | (exact below_nx (below_nx (below_al _ _) hb3) hb4))
                  · skip
                    cases e2 : bd.toList.isEmpty
                    · skip
                      have e2' : ¬ bd.toList = [] := fun e => by rw [e] at e2; cases e2
                      go_wp2_with (first | (go_at_call 51; first | (with_reducible refine (N1.out _).mono ?_; rintro e w' ⟨rfl, rfl⟩) | (with_reducible refine (N2.out _).mono ?_; rintro e w' ⟨rfl, rfl⟩) | (with_reducible refine (N3.out _).mono ?_; rintro e w' ⟨rfl, rfl⟩) | (with_reducible refine (N4.out _).mono ?_; rintro e w' ⟨rfl, rfl⟩) | (with_reducible refine (N5.out _).mono ?_; rintro e w' ⟨rfl, rfl⟩) | (with_reducible refine (N6.out _).mono ?_; rintro e w' ⟨rfl, rfl⟩)) | (go_at_call 52; refine (HN.out _).mono ?_; rintro e w' ⟨rfl, rfl⟩))
                      all_goals (go_ret; refine ⟨ret_bool ?_, ?_⟩)
                      all_goals (first | exact below_al _ _ | exact below_nx (below_al _ _) hb3 | rfl | (simp [*]; done) | (exact below_nx (below_nx (below_al _ _) hb3) hb4))
                    · skip
                      have e2' : bd.toList = [] := List.isEmpty_iff.1 e2
                      go_wp2_with (first | (go_at_call 51; first | (with_reducible refine (N1.out _).mono ?_; rintro e w' ⟨rfl, rfl⟩) | (with_reducible refine (N2.out _).mono ?_; rintro e w' ⟨rfl, rfl⟩) | (with_reducible refine (N3.out _).mono ?_; rintro e w' ⟨rfl, rfl⟩) | (with_reducible refine (N4.out _).mono ?_; rintro e w' ⟨rfl, rfl⟩) | (with_reducible refine (N5.out _).mono ?_; rintro e w' ⟨rfl, rfl⟩) | (with_reducible refine (N6.out _).mono ?_; rintro e w' ⟨rfl, rfl⟩)) | (go_at_call 52; refine (HN.out _).mono ?_; rintro e w' ⟨rfl, rfl⟩))
                      all_goals (go_ret; refine ⟨ret_bool ?_, ?_⟩)
                      all_goals (first | exact below_al _ _ | exact below_nx (below_al _ _) hb3 | rfl | (simp [*]; done) | (exact below_nx (below_nx (below_al _ _) hb3) hb4))
          · skip
            cases h0 : (cd == 0)
            · skip
              go_wp2_with (first | (go_at_call 51; first | (with_reducible refine (N1.out _).mono ?_; rintro e w' ⟨rfl, rfl⟩) | (with_reducible refine (N2.out _).mono ?_; rintro e w' ⟨rfl, rfl⟩) | (with_reducible refine (N3.out _).mono ?_; rintro e w' ⟨rfl, rfl⟩) | (with_reducible refine (N4.out _).mono ?_; rintro e w' ⟨rfl, rfl⟩) | (with_reducible refine (N5.out _).mono ?_; rintro e w' ⟨rfl, rfl⟩) | (with_reducible refine (N6.out _).mono ?_; rintro e w' ⟨rfl, rfl⟩)) | (go_at_call 52; refine (HN.out _).mono ?_; rintro e w' ⟨rfl, rfl⟩))
              all_goals (go_ret; refine ⟨ret_bool ?_, ?_⟩)
              all_goals (first | exact below_al _ _ | exact below_nx (below_al _ _) hb3 | rfl | (simp [*]; done) | (exact below_nx (below_nx (below_al _ _) hb3) hb4))
            · skip
              cases e1 : nm.toList.isEmpty
              · skip
                have e1' : ¬ nm.toList = [] := fun e => by rw [e] at e1; cases e1
                go_wp2_with (first | (go_at_call 51; first | (with_reducible refine (N1.out _).mono ?_; rintro e w' ⟨rfl, rfl⟩) | (with_reducible refine (N2.out _).mono ?_; rintro e w' ⟨rfl, rfl⟩) | (with_reducible refine (N3.out _).mono ?_; rintro e w' ⟨rfl, rfl⟩) | (with_reducible refine (N4.out _).mono ?_; rintro e w' ⟨rfl, rfl⟩) | (with_reducible refine (N5.out _).mono ?_; rintro e w' ⟨rfl, rfl⟩) | (with_reducible refine (N6.out _).mono ?_; rintro e w' ⟨rfl, rfl⟩)) | (go_at_call 52; refine (HN.out _).mono ?_; rintro e w' ⟨rfl, rfl⟩))
                all_goals (go_ret; refine ⟨ret_bool ?_, ?_⟩)
                all_goals (first | exact below_al _ _ | exact below_nx (below_al _ _) hb3 | rfl | (simp [*]; done) | (exact below_nx (below_nx (below_al _ _) hb3) hb4))
              · skip
                have e1' : nm.toList = [] := List.isEmpty_iff.1 e1
                cases Z
                · skip
                  go_wp2_with (first | (go_at_call 51; first | (with_reducible refine (N1.out _).mono ?_; rintro e w' ⟨rfl, rfl⟩) | (with_reducible refine (N2.out _).mono ?_; rintro e w' ⟨rfl, rfl⟩) | (with_reducible refine (N3.out _).mono ?_; rintro e w' ⟨rfl, rfl⟩) | (with_reducible refine (N4.out _).mono ?_; rintro e w' ⟨rfl, rfl⟩) | (with_reducible refine (N5.out _).mono ?_; rintro e w' ⟨rfl, rfl⟩) | (with_reducible refine (N6.out _).mono ?_; rintro e w' ⟨rfl, rfl⟩)) | (go_at_call 52; refine (HN.out _).mono ?_; rintro e w' ⟨rfl, rfl⟩))
                  all_goals (go_ret; refine ⟨ret_bool ?_, ?_⟩)
                  all_goals (first | exact below_al _ _ | exact below_nx (below_al _ _) hb3 | rfl | (simp [*]; done) | (exact below_nx (below_nx (below_al _ _) hb3) hb4))
                · skip
                  cases h9 : (decide ((bd.size : Int) ≤ 1024))
                  · skip
                    go_wp2_with (first | (go_at_call 51; first | (with_reducible refine (N1.out _).mono ?_; rintro e w' ⟨rfl, rfl⟩) | (with_reducible refine (N2.out _).mono ?_; rintro e w' ⟨rfl, rfl⟩) | (with_reducible refine (N3.out _).mono ?_; rintro e w' ⟨rfl, rfl⟩) | (with_reducible refine (N4.out _).mono ?_; rintro e w' ⟨rfl, rfl⟩) | (with_reducible refine (N5.out _).mono ?_; rintro e w' ⟨rfl, rfl⟩) | (with_reducible refine (N6.out _).mono ?_; rintro e w' ⟨rfl, rfl⟩)) | (go_at_call 52; refine (HN.out _).mono ?_; rintro e w' ⟨rfl, rfl⟩))
                    all_goals (go_ret; refine ⟨ret_bool ?_, ?_⟩)
                    all_goals (first | exact below_al _ _ | exact below_nx (below_al _ _) hb3 | rfl | (simp [*]; done) | (exact below_nx (below_nx (below_al _ _) hb3) hb4))
                  · skip
                    go_wp2_with (first | (go_at_call 51; first | (with_reducible refine (N1.out _).mono ?_; rintro e w' ⟨rfl, rfl⟩) | (with_reducible refine (N2.out _).mono ?_; rintro e w' ⟨rfl, rfl⟩) | (with_reducible refine (N3.out _).mono ?_; rintro e w' ⟨rfl, rfl⟩) | (with_reducible refine (N4.out _).mono ?_; rintro e w' ⟨rfl, rfl⟩) | (with_reducible refine (N5.out _).mono ?_; rintro e w' ⟨rfl, rfl⟩) | (with_reducible refine (N6.out _).mono ?_; rintro e w' ⟨rfl, rfl⟩)) | (go_at_call 52; refine (HN.out _).mono ?_; rintro e w' ⟨rfl, rfl⟩))
                    all_goals (go_ret; refine ⟨ret_bool ?_, ?_⟩)
                    all_goals (first | exact below_al _ _ | exact below_nx (below_al _ _) hb3 | rfl | (simp [*]; done) | (exact below_nx (below_nx (below_al _ _) hb3) hb4))
end Go.Proofs.YtidfgjgbigedeaaGreatDoor
