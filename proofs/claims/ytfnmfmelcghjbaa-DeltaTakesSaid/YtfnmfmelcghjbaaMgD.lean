/- Messages, the program: what a packet holds. -/
import Derived.Test.YtfnmfmelcghjbaaMgA
namespace Go.Proofs.Ytfnmfmelcghjbaa
open Go.Fq Go.RowKit Go.Mq
open Go.Iq (idE nameE)
set_option linter.unusedVariables false
set_option linter.unusedSimpArgs false
set_option maxRecDepth 100000

set_option maxHeartbeats 4000000 in
theorem mContent_any (kd fr bk tw hm hp : Int) (sr : Nat) (cd : Int) (nm : ByteArray) (id at_ : Int) (bd : ByteArray) (hn : nm.size ≤ 9223372036854775807) (w : World) : Calls Try.prog 87 #[.agg #[.int .i64 kd, .int .i64 fr, .int .i64 bk, .int .i64 tw, .int .i64 hm, .int .i64 hp, .int .u64 (sr : Int), .int .i64 cd, .string nm, .int .i64 id, .int .i64 at_, .string bd]] w fun e w' => e = .returned (.bool (contentB ⟨kd, fr, bk, tw, hm, hp, sr, cd, nm, id, at_, bd⟩)) ∧ Below w.heap.size w w' := by
  have HA := Lib.hid (mAddr_any kd fr bk tw hm hp sr cd nm id at_ bd)
  have HB := Lib.hid (mNoAddr_any kd fr bk tw hm hp sr cd nm id at_ bd)
  have HC := Lib.hid (mAns_any kd fr bk tw hm hp sr cd nm id at_ bd)
  have HN := Lib.hid (mName_any nm hn)
  unfold contentB hasAddr noAddr
  dsimp only
  generalize ((cd == 0 && (numB id && (at_ == 0 || numB at_))) || (cd == 1 && (id == 0 && at_ == 0))) = C at *
  generalize (numB id && (at_ == 0 || numB at_)) = A at *
  generalize (id == 0 && at_ == 0) = B at *
  generalize namB nm = N at *
  clear hn
  cases k1 : (kd == 1)
  · cases k2 : (kd == 2)
    · cases k3 : (kd == 3)
      · cases k4 : (kd == 4)
        · skip
          go_enter Try.func87, Try.ntmps87
          go_wp2_with (first | (go_at_call 96; refine (HA.out _).mono ?_; rintro e w3 ⟨rfl, hb3⟩; obtain ⟨y0, y1, y2, y3, y4, y5, y6, y7, y8, y9, y10, y11⟩ := box12 hb3) | (go_at_call 94; refine (HB.out _).mono ?_; rintro e w3 ⟨rfl, hb3⟩; obtain ⟨y0, y1, y2, y3, y4, y5, y6, y7, y8, y9, y10, y11⟩ := box12 hb3) | (go_at_call 97; refine (HC.out _).mono ?_; rintro e w3 ⟨rfl, hb3⟩; obtain ⟨y0, y1, y2, y3, y4, y5, y6, y7, y8, y9, y10, y11⟩ := box12 hb3) | (go_at_call 95; refine (HN.out _).mono ?_; rintro e w' ⟨rfl, rfl⟩))
          all_goals (go_ret; refine ⟨ret_bool ?_, ?_⟩)
          all_goals (first | exact below_al _ _ | exact below_nx (below_al _ _) hb3 | rfl | (simp [*]; done) | (exact below_nx (below_nx (below_al _ _) hb3) hb4))
        · skip
          cases C
          · skip
            go_enter Try.func87, Try.ntmps87
            go_wp2_with (first | (go_at_call 96; refine (HA.out _).mono ?_; rintro e w3 ⟨rfl, hb3⟩; obtain ⟨y0, y1, y2, y3, y4, y5, y6, y7, y8, y9, y10, y11⟩ := box12 hb3) | (go_at_call 94; refine (HB.out _).mono ?_; rintro e w3 ⟨rfl, hb3⟩; obtain ⟨y0, y1, y2, y3, y4, y5, y6, y7, y8, y9, y10, y11⟩ := box12 hb3) | (go_at_call 97; refine (HC.out _).mono ?_; rintro e w3 ⟨rfl, hb3⟩; obtain ⟨y0, y1, y2, y3, y4, y5, y6, y7, y8, y9, y10, y11⟩ := box12 hb3) | (go_at_call 95; refine (HN.out _).mono ?_; rintro e w' ⟨rfl, rfl⟩))
            all_goals (go_ret; refine ⟨ret_bool ?_, ?_⟩)
            all_goals (first | exact below_al _ _ | exact below_nx (below_al _ _) hb3 | rfl | (simp [*]; done) | (exact below_nx (below_nx (below_al _ _) hb3) hb4))
          · skip
            cases N
            · skip
              go_enter Try.func87, Try.ntmps87
              go_wp2_with (first | (go_at_call 96; refine (HA.out _).mono ?_; rintro e w3 ⟨rfl, hb3⟩; obtain ⟨y0, y1, y2, y3, y4, y5, y6, y7, y8, y9, y10, y11⟩ := box12 hb3) | (go_at_call 94; refine (HB.out _).mono ?_; rintro e w3 ⟨rfl, hb3⟩; obtain ⟨y0, y1, y2, y3, y4, y5, y6, y7, y8, y9, y10, y11⟩ := box12 hb3) | (go_at_call 97; refine (HC.out _).mono ?_; rintro e w3 ⟨rfl, hb3⟩; obtain ⟨y0, y1, y2, y3, y4, y5, y6, y7, y8, y9, y10, y11⟩ := box12 hb3) | (go_at_call 95; refine (HN.out _).mono ?_; rintro e w' ⟨rfl, rfl⟩))
              all_goals (go_ret; refine ⟨ret_bool ?_, ?_⟩)
              all_goals (first | exact below_al _ _ | exact below_nx (below_al _ _) hb3 | rfl | (simp [*]; done) | (exact below_nx (below_nx (below_al _ _) hb3) hb4))
            · skip
              cases e2 : bd.toList.isEmpty
              · skip
                have e2' : ¬ bd.toList = [] := fun e => by rw [e] at e2; cases e2
                go_enter Try.func87, Try.ntmps87
                go_wp2_with (first | (go_at_call 96; refine (HA.out _).mono ?_; rintro e w3 ⟨rfl, hb3⟩; obtain ⟨y0, y1, y2, y3, y4, y5, y6, y7, y8, y9, y10, y11⟩ := box12 hb3) | (go_at_call 94; refine (HB.out _).mono ?_; rintro e w3 ⟨rfl, hb3⟩; obtain ⟨y0, y1, y2, y3, y4, y5, y6, y7, y8, y9, y10, y11⟩ := box12 hb3) | (go_at_call 97; refine (HC.out _).mono ?_; rintro e w3 ⟨rfl, hb3⟩; obtain ⟨y0, y1, y2, y3, y4, y5, y6, y7, y8, y9, y10, y11⟩ := box12 hb3) | (go_at_call 95; refine (HN.out _).mono ?_; rintro e w' ⟨rfl, rfl⟩))
                all_goals (go_ret; refine ⟨ret_bool ?_, ?_⟩)
                all_goals (first | exact below_al _ _ | exact below_nx (below_al _ _) hb3 | rfl | (simp [*]; done) | (exact below_nx (below_nx (below_al _ _) hb3) hb4))
              · skip
                have e2' : bd.toList = [] := List.isEmpty_iff.1 e2
                go_enter Try.func87, Try.ntmps87
                go_wp2_with (first | (go_at_call 96; refine (HA.out _).mono ?_; rintro e w3 ⟨rfl, hb3⟩; obtain ⟨y0, y1, y2, y3, y4, y5, y6, y7, y8, y9, y10, y11⟩ := box12 hb3) | (go_at_call 94; refine (HB.out _).mono ?_; rintro e w3 ⟨rfl, hb3⟩; obtain ⟨y0, y1, y2, y3, y4, y5, y6, y7, y8, y9, y10, y11⟩ := box12 hb3) | (go_at_call 97; refine (HC.out _).mono ?_; rintro e w3 ⟨rfl, hb3⟩; obtain ⟨y0, y1, y2, y3, y4, y5, y6, y7, y8, y9, y10, y11⟩ := box12 hb3) | (go_at_call 95; refine (HN.out _).mono ?_; rintro e w' ⟨rfl, rfl⟩))
                all_goals (go_ret; refine ⟨ret_bool ?_, ?_⟩)
                all_goals (first | exact below_al _ _ | exact below_nx (below_al _ _) hb3 | rfl | (simp [*]; done) | (exact below_nx (below_nx (below_al _ _) hb3) hb4))
      · skip
        cases h0 : (cd == 0)
        · skip
          go_enter Try.func87, Try.ntmps87
          go_wp2_with (first | (go_at_call 96; refine (HA.out _).mono ?_; rintro e w3 ⟨rfl, hb3⟩; obtain ⟨y0, y1, y2, y3, y4, y5, y6, y7, y8, y9, y10, y11⟩ := box12 hb3) | (go_at_call 94; refine (HB.out _).mono ?_; rintro e w3 ⟨rfl, hb3⟩; obtain ⟨y0, y1, y2, y3, y4, y5, y6, y7, y8, y9, y10, y11⟩ := box12 hb3) | (go_at_call 97; refine (HC.out _).mono ?_; rintro e w3 ⟨rfl, hb3⟩; obtain ⟨y0, y1, y2, y3, y4, y5, y6, y7, y8, y9, y10, y11⟩ := box12 hb3) | (go_at_call 95; refine (HN.out _).mono ?_; rintro e w' ⟨rfl, rfl⟩))
          all_goals (go_ret; refine ⟨ret_bool ?_, ?_⟩)
          all_goals (first | exact below_al _ _ | exact below_nx (below_al _ _) hb3 | rfl | (simp [*]; done) | (exact below_nx (below_nx (below_al _ _) hb3) hb4))
        · skip
          cases N
          · skip
            go_enter Try.func87, Try.ntmps87
            go_wp2_with (first | (go_at_call 96; refine (HA.out _).mono ?_; rintro e w3 ⟨rfl, hb3⟩; obtain ⟨y0, y1, y2, y3, y4, y5, y6, y7, y8, y9, y10, y11⟩ := box12 hb3) | (go_at_call 94; refine (HB.out _).mono ?_; rintro e w3 ⟨rfl, hb3⟩; obtain ⟨y0, y1, y2, y3, y4, y5, y6, y7, y8, y9, y10, y11⟩ := box12 hb3) | (go_at_call 97; refine (HC.out _).mono ?_; rintro e w3 ⟨rfl, hb3⟩; obtain ⟨y0, y1, y2, y3, y4, y5, y6, y7, y8, y9, y10, y11⟩ := box12 hb3) | (go_at_call 95; refine (HN.out _).mono ?_; rintro e w' ⟨rfl, rfl⟩))
            all_goals (go_ret; refine ⟨ret_bool ?_, ?_⟩)
            all_goals (first | exact below_al _ _ | exact below_nx (below_al _ _) hb3 | rfl | (simp [*]; done) | (exact below_nx (below_nx (below_al _ _) hb3) hb4))
          · skip
            cases B
            · skip
              go_enter Try.func87, Try.ntmps87
              go_wp2_with (first | (go_at_call 96; refine (HA.out _).mono ?_; rintro e w3 ⟨rfl, hb3⟩; obtain ⟨y0, y1, y2, y3, y4, y5, y6, y7, y8, y9, y10, y11⟩ := box12 hb3) | (go_at_call 94; refine (HB.out _).mono ?_; rintro e w3 ⟨rfl, hb3⟩; obtain ⟨y0, y1, y2, y3, y4, y5, y6, y7, y8, y9, y10, y11⟩ := box12 hb3) | (go_at_call 97; refine (HC.out _).mono ?_; rintro e w3 ⟨rfl, hb3⟩; obtain ⟨y0, y1, y2, y3, y4, y5, y6, y7, y8, y9, y10, y11⟩ := box12 hb3) | (go_at_call 95; refine (HN.out _).mono ?_; rintro e w' ⟨rfl, rfl⟩))
              all_goals (go_ret; refine ⟨ret_bool ?_, ?_⟩)
              all_goals (first | exact below_al _ _ | exact below_nx (below_al _ _) hb3 | rfl | (simp [*]; done) | (exact below_nx (below_nx (below_al _ _) hb3) hb4))
            · skip
              cases e2 : bd.toList.isEmpty
              · skip
                have e2' : ¬ bd.toList = [] := fun e => by rw [e] at e2; cases e2
                go_enter Try.func87, Try.ntmps87
                go_wp2_with (first | (go_at_call 96; refine (HA.out _).mono ?_; rintro e w3 ⟨rfl, hb3⟩; obtain ⟨y0, y1, y2, y3, y4, y5, y6, y7, y8, y9, y10, y11⟩ := box12 hb3) | (go_at_call 94; refine (HB.out _).mono ?_; rintro e w3 ⟨rfl, hb3⟩; obtain ⟨y0, y1, y2, y3, y4, y5, y6, y7, y8, y9, y10, y11⟩ := box12 hb3) | (go_at_call 97; refine (HC.out _).mono ?_; rintro e w3 ⟨rfl, hb3⟩; obtain ⟨y0, y1, y2, y3, y4, y5, y6, y7, y8, y9, y10, y11⟩ := box12 hb3) | (go_at_call 95; refine (HN.out _).mono ?_; rintro e w' ⟨rfl, rfl⟩))
                all_goals (go_ret; refine ⟨ret_bool ?_, ?_⟩)
                all_goals (first | exact below_al _ _ | exact below_nx (below_al _ _) hb3 | rfl | (simp [*]; done) | (exact below_nx (below_nx (below_al _ _) hb3) hb4))
              · skip
                have e2' : bd.toList = [] := List.isEmpty_iff.1 e2
                go_enter Try.func87, Try.ntmps87
                go_wp2_with (first | (go_at_call 96; refine (HA.out _).mono ?_; rintro e w3 ⟨rfl, hb3⟩; obtain ⟨y0, y1, y2, y3, y4, y5, y6, y7, y8, y9, y10, y11⟩ := box12 hb3) | (go_at_call 94; refine (HB.out _).mono ?_; rintro e w3 ⟨rfl, hb3⟩; obtain ⟨y0, y1, y2, y3, y4, y5, y6, y7, y8, y9, y10, y11⟩ := box12 hb3) | (go_at_call 97; refine (HC.out _).mono ?_; rintro e w3 ⟨rfl, hb3⟩; obtain ⟨y0, y1, y2, y3, y4, y5, y6, y7, y8, y9, y10, y11⟩ := box12 hb3) | (go_at_call 95; refine (HN.out _).mono ?_; rintro e w' ⟨rfl, rfl⟩))
                all_goals (go_ret; refine ⟨ret_bool ?_, ?_⟩)
                all_goals (first | exact below_al _ _ | exact below_nx (below_al _ _) hb3 | rfl | (simp [*]; done) | (exact below_nx (below_nx (below_al _ _) hb3) hb4))
    · skip
      cases h0 : (cd == 0)
      · skip
        go_enter Try.func87, Try.ntmps87
        go_wp2_with (first | (go_at_call 96; refine (HA.out _).mono ?_; rintro e w3 ⟨rfl, hb3⟩; obtain ⟨y0, y1, y2, y3, y4, y5, y6, y7, y8, y9, y10, y11⟩ := box12 hb3) | (go_at_call 94; refine (HB.out _).mono ?_; rintro e w3 ⟨rfl, hb3⟩; obtain ⟨y0, y1, y2, y3, y4, y5, y6, y7, y8, y9, y10, y11⟩ := box12 hb3) | (go_at_call 97; refine (HC.out _).mono ?_; rintro e w3 ⟨rfl, hb3⟩; obtain ⟨y0, y1, y2, y3, y4, y5, y6, y7, y8, y9, y10, y11⟩ := box12 hb3) | (go_at_call 95; refine (HN.out _).mono ?_; rintro e w' ⟨rfl, rfl⟩))
        all_goals (go_ret; refine ⟨ret_bool ?_, ?_⟩)
        all_goals (first | exact below_al _ _ | exact below_nx (below_al _ _) hb3 | rfl | (simp [*]; done) | (exact below_nx (below_nx (below_al _ _) hb3) hb4))
      · skip
        cases N
        · skip
          go_enter Try.func87, Try.ntmps87
          go_wp2_with (first | (go_at_call 96; refine (HA.out _).mono ?_; rintro e w3 ⟨rfl, hb3⟩; obtain ⟨y0, y1, y2, y3, y4, y5, y6, y7, y8, y9, y10, y11⟩ := box12 hb3) | (go_at_call 94; refine (HB.out _).mono ?_; rintro e w3 ⟨rfl, hb3⟩; obtain ⟨y0, y1, y2, y3, y4, y5, y6, y7, y8, y9, y10, y11⟩ := box12 hb3) | (go_at_call 97; refine (HC.out _).mono ?_; rintro e w3 ⟨rfl, hb3⟩; obtain ⟨y0, y1, y2, y3, y4, y5, y6, y7, y8, y9, y10, y11⟩ := box12 hb3) | (go_at_call 95; refine (HN.out _).mono ?_; rintro e w' ⟨rfl, rfl⟩))
          all_goals (go_ret; refine ⟨ret_bool ?_, ?_⟩)
          all_goals (first | exact below_al _ _ | exact below_nx (below_al _ _) hb3 | rfl | (simp [*]; done) | (exact below_nx (below_nx (below_al _ _) hb3) hb4))
        · skip
          cases A
          · skip
            go_enter Try.func87, Try.ntmps87
            go_wp2_with (first | (go_at_call 96; refine (HA.out _).mono ?_; rintro e w3 ⟨rfl, hb3⟩; obtain ⟨y0, y1, y2, y3, y4, y5, y6, y7, y8, y9, y10, y11⟩ := box12 hb3) | (go_at_call 94; refine (HB.out _).mono ?_; rintro e w3 ⟨rfl, hb3⟩; obtain ⟨y0, y1, y2, y3, y4, y5, y6, y7, y8, y9, y10, y11⟩ := box12 hb3) | (go_at_call 97; refine (HC.out _).mono ?_; rintro e w3 ⟨rfl, hb3⟩; obtain ⟨y0, y1, y2, y3, y4, y5, y6, y7, y8, y9, y10, y11⟩ := box12 hb3) | (go_at_call 95; refine (HN.out _).mono ?_; rintro e w' ⟨rfl, rfl⟩))
            all_goals (go_ret; refine ⟨ret_bool ?_, ?_⟩)
            all_goals (first | exact below_al _ _ | exact below_nx (below_al _ _) hb3 | rfl | (simp [*]; done) | (exact below_nx (below_nx (below_al _ _) hb3) hb4))
          · skip
            cases e2 : bd.toList.isEmpty
            · skip
              have e2' : ¬ bd.toList = [] := fun e => by rw [e] at e2; cases e2
              go_enter Try.func87, Try.ntmps87
              go_wp2_with (first | (go_at_call 96; refine (HA.out _).mono ?_; rintro e w3 ⟨rfl, hb3⟩; obtain ⟨y0, y1, y2, y3, y4, y5, y6, y7, y8, y9, y10, y11⟩ := box12 hb3) | (go_at_call 94; refine (HB.out _).mono ?_; rintro e w3 ⟨rfl, hb3⟩; obtain ⟨y0, y1, y2, y3, y4, y5, y6, y7, y8, y9, y10, y11⟩ := box12 hb3) | (go_at_call 97; refine (HC.out _).mono ?_; rintro e w3 ⟨rfl, hb3⟩; obtain ⟨y0, y1, y2, y3, y4, y5, y6, y7, y8, y9, y10, y11⟩ := box12 hb3) | (go_at_call 95; refine (HN.out _).mono ?_; rintro e w' ⟨rfl, rfl⟩))
              all_goals (go_ret; refine ⟨ret_bool ?_, ?_⟩)
              all_goals (first | exact below_al _ _ | exact below_nx (below_al _ _) hb3 | rfl | (simp [*]; done) | (exact below_nx (below_nx (below_al _ _) hb3) hb4))
            · skip
              have e2' : bd.toList = [] := List.isEmpty_iff.1 e2
              go_enter Try.func87, Try.ntmps87
              go_wp2_with (first | (go_at_call 96; refine (HA.out _).mono ?_; rintro e w3 ⟨rfl, hb3⟩; obtain ⟨y0, y1, y2, y3, y4, y5, y6, y7, y8, y9, y10, y11⟩ := box12 hb3) | (go_at_call 94; refine (HB.out _).mono ?_; rintro e w3 ⟨rfl, hb3⟩; obtain ⟨y0, y1, y2, y3, y4, y5, y6, y7, y8, y9, y10, y11⟩ := box12 hb3) | (go_at_call 97; refine (HC.out _).mono ?_; rintro e w3 ⟨rfl, hb3⟩; obtain ⟨y0, y1, y2, y3, y4, y5, y6, y7, y8, y9, y10, y11⟩ := box12 hb3) | (go_at_call 95; refine (HN.out _).mono ?_; rintro e w' ⟨rfl, rfl⟩))
              all_goals (go_ret; refine ⟨ret_bool ?_, ?_⟩)
              all_goals (first | exact below_al _ _ | exact below_nx (below_al _ _) hb3 | rfl | (simp [*]; done) | (exact below_nx (below_nx (below_al _ _) hb3) hb4))
  · skip
    cases h0 : (cd == 0)
    · skip
      go_enter Try.func87, Try.ntmps87
      go_wp2_with (first | (go_at_call 96; refine (HA.out _).mono ?_; rintro e w3 ⟨rfl, hb3⟩; obtain ⟨y0, y1, y2, y3, y4, y5, y6, y7, y8, y9, y10, y11⟩ := box12 hb3) | (go_at_call 94; refine (HB.out _).mono ?_; rintro e w3 ⟨rfl, hb3⟩; obtain ⟨y0, y1, y2, y3, y4, y5, y6, y7, y8, y9, y10, y11⟩ := box12 hb3) | (go_at_call 97; refine (HC.out _).mono ?_; rintro e w3 ⟨rfl, hb3⟩; obtain ⟨y0, y1, y2, y3, y4, y5, y6, y7, y8, y9, y10, y11⟩ := box12 hb3) | (go_at_call 95; refine (HN.out _).mono ?_; rintro e w' ⟨rfl, rfl⟩))
      all_goals (go_ret; refine ⟨ret_bool ?_, ?_⟩)
      all_goals (first | exact below_al _ _ | exact below_nx (below_al _ _) hb3 | rfl | (simp [*]; done) | (exact below_nx (below_nx (below_al _ _) hb3) hb4))
    · skip
      cases e1 : nm.toList.isEmpty
      · skip
        have e1' : ¬ nm.toList = [] := fun e => by rw [e] at e1; cases e1
        go_enter Try.func87, Try.ntmps87
        go_wp2_with (first | (go_at_call 96; refine (HA.out _).mono ?_; rintro e w3 ⟨rfl, hb3⟩; obtain ⟨y0, y1, y2, y3, y4, y5, y6, y7, y8, y9, y10, y11⟩ := box12 hb3) | (go_at_call 94; refine (HB.out _).mono ?_; rintro e w3 ⟨rfl, hb3⟩; obtain ⟨y0, y1, y2, y3, y4, y5, y6, y7, y8, y9, y10, y11⟩ := box12 hb3) | (go_at_call 97; refine (HC.out _).mono ?_; rintro e w3 ⟨rfl, hb3⟩; obtain ⟨y0, y1, y2, y3, y4, y5, y6, y7, y8, y9, y10, y11⟩ := box12 hb3) | (go_at_call 95; refine (HN.out _).mono ?_; rintro e w' ⟨rfl, rfl⟩))
        all_goals (go_ret; refine ⟨ret_bool ?_, ?_⟩)
        all_goals (first | exact below_al _ _ | exact below_nx (below_al _ _) hb3 | rfl | (simp [*]; done) | (exact below_nx (below_nx (below_al _ _) hb3) hb4))
      · skip
        have e1' : nm.toList = [] := List.isEmpty_iff.1 e1
        cases B
        · skip
          go_enter Try.func87, Try.ntmps87
          go_wp2_with (first | (go_at_call 96; refine (HA.out _).mono ?_; rintro e w3 ⟨rfl, hb3⟩; obtain ⟨y0, y1, y2, y3, y4, y5, y6, y7, y8, y9, y10, y11⟩ := box12 hb3) | (go_at_call 94; refine (HB.out _).mono ?_; rintro e w3 ⟨rfl, hb3⟩; obtain ⟨y0, y1, y2, y3, y4, y5, y6, y7, y8, y9, y10, y11⟩ := box12 hb3) | (go_at_call 97; refine (HC.out _).mono ?_; rintro e w3 ⟨rfl, hb3⟩; obtain ⟨y0, y1, y2, y3, y4, y5, y6, y7, y8, y9, y10, y11⟩ := box12 hb3) | (go_at_call 95; refine (HN.out _).mono ?_; rintro e w' ⟨rfl, rfl⟩))
          all_goals (go_ret; refine ⟨ret_bool ?_, ?_⟩)
          all_goals (first | exact below_al _ _ | exact below_nx (below_al _ _) hb3 | rfl | (simp [*]; done) | (exact below_nx (below_nx (below_al _ _) hb3) hb4))
        · skip
          cases h9 : (decide ((bd.size : Int) ≤ 1024))
          · skip
            go_enter Try.func87, Try.ntmps87
            go_wp2_with (first | (go_at_call 96; refine (HA.out _).mono ?_; rintro e w3 ⟨rfl, hb3⟩; obtain ⟨y0, y1, y2, y3, y4, y5, y6, y7, y8, y9, y10, y11⟩ := box12 hb3) | (go_at_call 94; refine (HB.out _).mono ?_; rintro e w3 ⟨rfl, hb3⟩; obtain ⟨y0, y1, y2, y3, y4, y5, y6, y7, y8, y9, y10, y11⟩ := box12 hb3) | (go_at_call 97; refine (HC.out _).mono ?_; rintro e w3 ⟨rfl, hb3⟩; obtain ⟨y0, y1, y2, y3, y4, y5, y6, y7, y8, y9, y10, y11⟩ := box12 hb3) | (go_at_call 95; refine (HN.out _).mono ?_; rintro e w' ⟨rfl, rfl⟩))
            all_goals (go_ret; refine ⟨ret_bool ?_, ?_⟩)
            all_goals (first | exact below_al _ _ | exact below_nx (below_al _ _) hb3 | rfl | (simp [*]; done) | (exact below_nx (below_nx (below_al _ _) hb3) hb4))
          · skip
            go_enter Try.func87, Try.ntmps87
            go_wp2_with (first | (go_at_call 96; refine (HA.out _).mono ?_; rintro e w3 ⟨rfl, hb3⟩; obtain ⟨y0, y1, y2, y3, y4, y5, y6, y7, y8, y9, y10, y11⟩ := box12 hb3) | (go_at_call 94; refine (HB.out _).mono ?_; rintro e w3 ⟨rfl, hb3⟩; obtain ⟨y0, y1, y2, y3, y4, y5, y6, y7, y8, y9, y10, y11⟩ := box12 hb3) | (go_at_call 97; refine (HC.out _).mono ?_; rintro e w3 ⟨rfl, hb3⟩; obtain ⟨y0, y1, y2, y3, y4, y5, y6, y7, y8, y9, y10, y11⟩ := box12 hb3) | (go_at_call 95; refine (HN.out _).mono ?_; rintro e w' ⟨rfl, rfl⟩))
            all_goals (go_ret; refine ⟨ret_bool ?_, ?_⟩)
            all_goals (first | exact below_al _ _ | exact below_nx (below_al _ _) hb3 | rfl | (simp [*]; done) | (exact below_nx (below_nx (below_al _ _) hb3) hb4))
set_option maxHeartbeats 4000000 in
theorem mPacket_any (kd fr bk tw hm hp : Int) (sr : Nat) (cd : Int) (nm : ByteArray) (id at_ : Int) (bd : ByteArray) (hn : nm.size ≤ 9223372036854775807) (w : World) : Calls Try.prog 80 #[.agg #[.int .i64 kd, .int .i64 fr, .int .i64 bk, .int .i64 tw, .int .i64 hm, .int .i64 hp, .int .u64 (sr : Int), .int .i64 cd, .string nm, .int .i64 id, .int .i64 at_, .string bd]] w fun e w' => e = .returned (.bool (packB ⟨kd, fr, bk, tw, hm, hp, sr, cd, nm, id, at_, bd⟩)) ∧ Below w.heap.size w w' := by
  have HC := Lib.hid (mContent_any kd fr bk tw hm hp sr cd nm id at_ bd hn)
  have N1 := Lib.hid (mNum_any fr)
  have N2 := Lib.hid (mNone_any bk)
  have N3 := Lib.hid (mNum_any tw)
  have N4 := Lib.hid (mNone_any hm)
  unfold packB
  dsimp only
  generalize contentB ⟨kd, fr, bk, tw, hm, hp, sr, cd, nm, id, at_, bd⟩ = C at *
  generalize numB fr = A at *
  generalize (bk == 0 || numB bk) = B at *
  generalize numB tw = D at *
  generalize (hm == 0 || numB hm) = E at *
  clear hn
  cases A
  · skip
    go_enter Try.func80, Try.ntmps80
    go_wp2_with (first | (go_at_call 85; first | (with_reducible refine (N1.out _).mono ?_; rintro e w' ⟨rfl, rfl⟩) | (with_reducible refine (N3.out _).mono ?_; rintro e w' ⟨rfl, rfl⟩)) | (go_at_call 86; first | (with_reducible refine (N2.out _).mono ?_; rintro e w' ⟨rfl, rfl⟩) | (with_reducible refine (N4.out _).mono ?_; rintro e w' ⟨rfl, rfl⟩)) | (go_at_call 87; refine (HC.out _).mono ?_; rintro e w3 ⟨rfl, hb3⟩))
    all_goals (go_ret; refine ⟨ret_bool ?_, ?_⟩)
    all_goals (first | exact below_al _ _ | exact below_nx (below_al _ _) hb3 | rfl | (simp [*]; done) | (exact below_nx (below_nx (below_al _ _) hb3) hb4))
  · skip
    cases B
    · skip
      go_enter Try.func80, Try.ntmps80
      go_wp2_with (first | (go_at_call 85; first | (with_reducible refine (N1.out _).mono ?_; rintro e w' ⟨rfl, rfl⟩) | (with_reducible refine (N3.out _).mono ?_; rintro e w' ⟨rfl, rfl⟩)) | (go_at_call 86; first | (with_reducible refine (N2.out _).mono ?_; rintro e w' ⟨rfl, rfl⟩) | (with_reducible refine (N4.out _).mono ?_; rintro e w' ⟨rfl, rfl⟩)) | (go_at_call 87; refine (HC.out _).mono ?_; rintro e w3 ⟨rfl, hb3⟩))
      all_goals (go_ret; refine ⟨ret_bool ?_, ?_⟩)
      all_goals (first | exact below_al _ _ | exact below_nx (below_al _ _) hb3 | rfl | (simp [*]; done) | (exact below_nx (below_nx (below_al _ _) hb3) hb4))
    · skip
      cases D
      · skip
        go_enter Try.func80, Try.ntmps80
        go_wp2_with (first | (go_at_call 85; first | (with_reducible refine (N1.out _).mono ?_; rintro e w' ⟨rfl, rfl⟩) | (with_reducible refine (N3.out _).mono ?_; rintro e w' ⟨rfl, rfl⟩)) | (go_at_call 86; first | (with_reducible refine (N2.out _).mono ?_; rintro e w' ⟨rfl, rfl⟩) | (with_reducible refine (N4.out _).mono ?_; rintro e w' ⟨rfl, rfl⟩)) | (go_at_call 87; refine (HC.out _).mono ?_; rintro e w3 ⟨rfl, hb3⟩))
        all_goals (go_ret; refine ⟨ret_bool ?_, ?_⟩)
        all_goals (first | exact below_al _ _ | exact below_nx (below_al _ _) hb3 | rfl | (simp [*]; done) | (exact below_nx (below_nx (below_al _ _) hb3) hb4))
      · skip
        cases E
        · skip
          go_enter Try.func80, Try.ntmps80
          go_wp2_with (first | (go_at_call 85; first | (with_reducible refine (N1.out _).mono ?_; rintro e w' ⟨rfl, rfl⟩) | (with_reducible refine (N3.out _).mono ?_; rintro e w' ⟨rfl, rfl⟩)) | (go_at_call 86; first | (with_reducible refine (N2.out _).mono ?_; rintro e w' ⟨rfl, rfl⟩) | (with_reducible refine (N4.out _).mono ?_; rintro e w' ⟨rfl, rfl⟩)) | (go_at_call 87; refine (HC.out _).mono ?_; rintro e w3 ⟨rfl, hb3⟩))
          all_goals (go_ret; refine ⟨ret_bool ?_, ?_⟩)
          all_goals (first | exact below_al _ _ | exact below_nx (below_al _ _) hb3 | rfl | (simp [*]; done) | (exact below_nx (below_nx (below_al _ _) hb3) hb4))
        · skip
          cases h1 : (decide (0 ≤ hp))
          · skip
            go_enter Try.func80, Try.ntmps80
            go_wp2_with (first | (go_at_call 85; first | (with_reducible refine (N1.out _).mono ?_; rintro e w' ⟨rfl, rfl⟩) | (with_reducible refine (N3.out _).mono ?_; rintro e w' ⟨rfl, rfl⟩)) | (go_at_call 86; first | (with_reducible refine (N2.out _).mono ?_; rintro e w' ⟨rfl, rfl⟩) | (with_reducible refine (N4.out _).mono ?_; rintro e w' ⟨rfl, rfl⟩)) | (go_at_call 87; refine (HC.out _).mono ?_; rintro e w3 ⟨rfl, hb3⟩))
            all_goals (go_ret; refine ⟨ret_bool ?_, ?_⟩)
            all_goals (first | exact below_al _ _ | exact below_nx (below_al _ _) hb3 | rfl | (simp [*]; done) | (exact below_nx (below_nx (below_al _ _) hb3) hb4))
          · skip
            cases h2 : (decide (hp ≤ 65536))
            · skip
              go_enter Try.func80, Try.ntmps80
              go_wp2_with (first | (go_at_call 85; first | (with_reducible refine (N1.out _).mono ?_; rintro e w' ⟨rfl, rfl⟩) | (with_reducible refine (N3.out _).mono ?_; rintro e w' ⟨rfl, rfl⟩)) | (go_at_call 86; first | (with_reducible refine (N2.out _).mono ?_; rintro e w' ⟨rfl, rfl⟩) | (with_reducible refine (N4.out _).mono ?_; rintro e w' ⟨rfl, rfl⟩)) | (go_at_call 87; refine (HC.out _).mono ?_; rintro e w3 ⟨rfl, hb3⟩))
              all_goals (go_ret; refine ⟨ret_bool ?_, ?_⟩)
              all_goals (first | exact below_al _ _ | exact below_nx (below_al _ _) hb3 | rfl | (simp [*]; done) | (exact below_nx (below_nx (below_al _ _) hb3) hb4))
            · skip
              cases C
              · skip
                go_enter Try.func80, Try.ntmps80
                go_wp2_with (first | (go_at_call 85; first | (with_reducible refine (N1.out _).mono ?_; rintro e w' ⟨rfl, rfl⟩) | (with_reducible refine (N3.out _).mono ?_; rintro e w' ⟨rfl, rfl⟩)) | (go_at_call 86; first | (with_reducible refine (N2.out _).mono ?_; rintro e w' ⟨rfl, rfl⟩) | (with_reducible refine (N4.out _).mono ?_; rintro e w' ⟨rfl, rfl⟩)) | (go_at_call 87; refine (HC.out _).mono ?_; rintro e w3 ⟨rfl, hb3⟩))
                all_goals (go_ret; refine ⟨ret_bool ?_, ?_⟩)
                all_goals (first | exact below_al _ _ | exact below_nx (below_al _ _) hb3 | rfl | (simp [*]; done) | (exact below_nx (below_nx (below_al _ _) hb3) hb4))
              · skip
                go_enter Try.func80, Try.ntmps80
                go_wp2_with (first | (go_at_call 85; first | (with_reducible refine (N1.out _).mono ?_; rintro e w' ⟨rfl, rfl⟩) | (with_reducible refine (N3.out _).mono ?_; rintro e w' ⟨rfl, rfl⟩)) | (go_at_call 86; first | (with_reducible refine (N2.out _).mono ?_; rintro e w' ⟨rfl, rfl⟩) | (with_reducible refine (N4.out _).mono ?_; rintro e w' ⟨rfl, rfl⟩)) | (go_at_call 87; refine (HC.out _).mono ?_; rintro e w3 ⟨rfl, hb3⟩))
                all_goals (go_ret; refine ⟨ret_bool ?_, ?_⟩)
                all_goals (first | exact below_al _ _ | exact below_nx (below_al _ _) hb3 | rfl | (simp [*]; done) | (exact below_nx (below_nx (below_al _ _) hb3) hb4))
end Go.Proofs.Ytfnmfmelcghjbaa
