/- Messages, the document: Check. -/
import Derived.Test.YtidfgjgbigedeaaGreatDoorMgJ
import Derived.Test.YtidfgjgbigedeaaGreatDoorMgH
import Derived.Test.YtidfgjgbigedeaaGreatDoorMgE
import Derived.Test.YtidfgjgbigedeaaGreatDoorMgA
namespace Go.Proofs.YtidfgjgbigedeaaGreatDoor
open Go.Fq Go.RowKit Go.Mq
open Go.Iq (idE nameE)
set_option linter.unusedVariables false
set_option linter.unusedSimpArgs false
set_option maxRecDepth 100000

/-- A box of seventeen cells, behind calls. -/
theorem box17 {w w' : World} {v0 v1 v2 v3 v4 v5 v6 v7 v8 v9 v10 v11 v12 v13 v14 v15 v16 : Value} {t : TypeId} (k : Below (w.alloc (.cells #[v0, v1, v2, v3, v4, v5, v6, v7, v8, v9, v10, v11, v12, v13, v14, v15, v16] t)).heap.size (w.alloc (.cells #[v0, v1, v2, v3, v4, v5, v6, v7, v8, v9, v10, v11, v12, v13, v14, v15, v16] t)) w') :
    w'.cell? ⟨w.heap.size, 0, none⟩ = some v0 ∧ w'.cell? ⟨w.heap.size, 1, none⟩ = some v1 ∧ w'.cell? ⟨w.heap.size, 2, none⟩ = some v2 ∧ w'.cell? ⟨w.heap.size, 3, none⟩ = some v3 ∧ w'.cell? ⟨w.heap.size, 4, none⟩ = some v4 ∧ w'.cell? ⟨w.heap.size, 5, none⟩ = some v5 ∧ w'.cell? ⟨w.heap.size, 6, none⟩ = some v6 ∧ w'.cell? ⟨w.heap.size, 7, none⟩ = some v7 ∧ w'.cell? ⟨w.heap.size, 8, none⟩ = some v8 ∧ w'.cell? ⟨w.heap.size, 9, none⟩ = some v9 ∧ w'.cell? ⟨w.heap.size, 10, none⟩ = some v10 ∧ w'.cell? ⟨w.heap.size, 11, none⟩ = some v11 ∧ w'.cell? ⟨w.heap.size, 12, none⟩ = some v12 ∧ w'.cell? ⟨w.heap.size, 13, none⟩ = some v13 ∧ w'.cell? ⟨w.heap.size, 14, none⟩ = some v14 ∧ w'.cell? ⟨w.heap.size, 15, none⟩ = some v15 ∧ w'.cell? ⟨w.heap.size, 16, none⟩ = some v16 := by
  have hb : w.heap.size < (w.alloc (.cells #[v0, v1, v2, v3, v4, v5, v6, v7, v8, v9, v10, v11, v12, v13, v14, v15, v16] t)).heap.size := by simp
  refine ⟨(k.cell (p := ⟨w.heap.size, 0, none⟩) hb).trans ?_, (k.cell (p := ⟨w.heap.size, 1, none⟩) hb).trans ?_, (k.cell (p := ⟨w.heap.size, 2, none⟩) hb).trans ?_, (k.cell (p := ⟨w.heap.size, 3, none⟩) hb).trans ?_, (k.cell (p := ⟨w.heap.size, 4, none⟩) hb).trans ?_, (k.cell (p := ⟨w.heap.size, 5, none⟩) hb).trans ?_, (k.cell (p := ⟨w.heap.size, 6, none⟩) hb).trans ?_, (k.cell (p := ⟨w.heap.size, 7, none⟩) hb).trans ?_, (k.cell (p := ⟨w.heap.size, 8, none⟩) hb).trans ?_, (k.cell (p := ⟨w.heap.size, 9, none⟩) hb).trans ?_, (k.cell (p := ⟨w.heap.size, 10, none⟩) hb).trans ?_, (k.cell (p := ⟨w.heap.size, 11, none⟩) hb).trans ?_, (k.cell (p := ⟨w.heap.size, 12, none⟩) hb).trans ?_, (k.cell (p := ⟨w.heap.size, 13, none⟩) hb).trans ?_, (k.cell (p := ⟨w.heap.size, 14, none⟩) hb).trans ?_, (k.cell (p := ⟨w.heap.size, 15, none⟩) hb).trans ?_, (k.cell (p := ⟨w.heap.size, 16, none⟩) hb).trans ?_⟩ <;> simp [go_sem]
set_option maxHeartbeats 8000000 in
theorem rCheck_any (k : Int) (nn ec sq : Nat) (l : List Nw) (na : Option Addr) (nc : Nat) (kd fr bk tw hm hp : Int) (sr : Nat) (cd : Int) (nm : ByteArray) (id at_ : Int) (bd : ByteArray) (hn : nm.size ≤ 9223372036854775807) (w : World) (hin : NewsIn w w.heap.size l na) (hfit : ∀ n ∈ l, n.Fit) (hl62 : l.length < 4611686018427387904) : Calls Tryz.prog 11 #[.agg #[.int .i64 k, .int .u64 (nn : Int), .int .u64 (ec : Int), .int .u64 (sq : Int), .slice na l.length nc, .int .i64 kd, .int .i64 fr, .int .i64 bk, .int .i64 tw, .int .i64 hm, .int .i64 hp, .int .u64 (sr : Int), .int .i64 cd, .string nm, .int .i64 id, .int .i64 at_, .string bd]] w fun e w' => e = .returned (.int .i64 (if mayB ⟨k, nn, ec, sq, l, ⟨kd, fr, bk, tw, hm, hp, sr, cd, nm, id, at_, bd⟩⟩ then 0 else 60)) ∧ Below w.heap.size w w' := by
  have HZ := Lib.hid (rEmpty_any kd fr bk tw hm hp sr cd nm id at_ bd)
  have HP := Lib.hid (rPacket_any kd fr bk tw hm hp sr cd nm id at_ bd hn)
  have HL := Lib.hid (fun (W : World) (h : Below w.heap.size w W) => rTold_any l na nc W (hin.kept (fun i hi => h.block i hi) h.size) hfit hl62)
  unfold mayB
  dsimp only
  clear hin hfit hn
  generalize zeroPk ⟨kd, fr, bk, tw, hm, hp, sr, cd, nm, id, at_, bd⟩ = Z at *
  generalize packB ⟨kd, fr, bk, tw, hm, hp, sr, cd, nm, id, at_, bd⟩ = P at *
  generalize toldB l = L at *
  cases k1 : (k == 1)
  · cases k2 : (k == 2)
    · cases k3 : (k == 3)
      · cases k4 : (k == 4)
        · skip
          go_enter Tryz.func11, Tryz.ntmps11
          go_wp2_with (fail)
          all_goals (go_ret; refine ⟨?_, ?_⟩)
          all_goals (first | exact below_al _ _ | exact below_nx (below_al _ _) hd4 | exact below_nx (below_al _ _) hd3 | rfl | (simp [*]; done))
        · skip
          cases h1 : ((nn : Int) == 0)
          · skip
            go_enter Tryz.func11, Tryz.ntmps11
            go_wp2_with (first | (go_at_call 26; refine (HP.out _).mono ?_; rintro e w3 ⟨rfl, hb3⟩; have hd3 := hb3; obtain ⟨x0, x1, x2, x3, x4, x5, x6, x7, x8, x9, x10, x11, x12, x13, x14, x15, x16⟩ := box17 hd3))
            all_goals (go_ret; refine ⟨?_, ?_⟩)
            all_goals (first | exact below_al _ _ | exact below_nx (below_al _ _) hd4 | exact below_nx (below_al _ _) hd3 | rfl | (simp [*]; done))
          · skip
            cases h2 : ((ec : Int) == 0)
            · skip
              go_enter Tryz.func11, Tryz.ntmps11
              go_wp2_with (first | (go_at_call 26; refine (HP.out _).mono ?_; rintro e w3 ⟨rfl, hb3⟩; have hd3 := hb3; obtain ⟨x0, x1, x2, x3, x4, x5, x6, x7, x8, x9, x10, x11, x12, x13, x14, x15, x16⟩ := box17 hd3))
              all_goals (go_ret; refine ⟨?_, ?_⟩)
              all_goals (first | exact below_al _ _ | exact below_nx (below_al _ _) hd4 | exact below_nx (below_al _ _) hd3 | rfl | (simp [*]; done))
            · skip
              cases h3 : ((sq : Int) == 0)
              · skip
                go_enter Tryz.func11, Tryz.ntmps11
                go_wp2_with (first | (go_at_call 26; refine (HP.out _).mono ?_; rintro e w3 ⟨rfl, hb3⟩; have hd3 := hb3; obtain ⟨x0, x1, x2, x3, x4, x5, x6, x7, x8, x9, x10, x11, x12, x13, x14, x15, x16⟩ := box17 hd3))
                all_goals (go_ret; refine ⟨?_, ?_⟩)
                all_goals (first | exact below_al _ _ | exact below_nx (below_al _ _) hd4 | exact below_nx (below_al _ _) hd3 | rfl | (simp [*]; done))
              · skip
                cases h4 : ((l.length : Int) == 0)
                · skip
                  go_enter Tryz.func11, Tryz.ntmps11
                  go_wp2_with (first | (go_at_call 26; refine (HP.out _).mono ?_; rintro e w3 ⟨rfl, hb3⟩; have hd3 := hb3; obtain ⟨x0, x1, x2, x3, x4, x5, x6, x7, x8, x9, x10, x11, x12, x13, x14, x15, x16⟩ := box17 hd3))
                  all_goals (go_ret; refine ⟨?_, ?_⟩)
                  all_goals (first | exact below_al _ _ | exact below_nx (below_al _ _) hd4 | exact below_nx (below_al _ _) hd3 | rfl | (simp [*]; done))
                · skip
                  cases P
                  · skip
                    go_enter Tryz.func11, Tryz.ntmps11
                    go_wp2_with (first | (go_at_call 26; refine (HP.out _).mono ?_; rintro e w3 ⟨rfl, hb3⟩; have hd3 := hb3; obtain ⟨x0, x1, x2, x3, x4, x5, x6, x7, x8, x9, x10, x11, x12, x13, x14, x15, x16⟩ := box17 hd3))
                    all_goals (go_ret; refine ⟨?_, ?_⟩)
                    all_goals (first | exact below_al _ _ | exact below_nx (below_al _ _) hd4 | exact below_nx (below_al _ _) hd3 | rfl | (simp [*]; done))
                  · skip
                    go_enter Tryz.func11, Tryz.ntmps11
                    go_wp2_with (first | (go_at_call 26; refine (HP.out _).mono ?_; rintro e w3 ⟨rfl, hb3⟩; have hd3 := hb3; obtain ⟨x0, x1, x2, x3, x4, x5, x6, x7, x8, x9, x10, x11, x12, x13, x14, x15, x16⟩ := box17 hd3))
                    all_goals (go_ret; refine ⟨?_, ?_⟩)
                    all_goals (first | exact below_al _ _ | exact below_nx (below_al _ _) hd4 | exact below_nx (below_al _ _) hd3 | rfl | (simp [*]; done))
      · skip
        cases h1 : (decide ((1 : Int) ≤ (nn : Int)))
        · skip
          have ph1 : decide ((0 : Int) < (nn : Int)) = false := decide_eq_false (by have := of_decide_eq_false h1; omega); have qh1 : ¬ 0 < nn := by have := of_decide_eq_false h1; omega
          go_enter Tryz.func11, Tryz.ntmps11
          go_wp2_with (first | (go_at_call 24; refine (HZ.out _).mono ?_; rintro e w3 ⟨rfl, hb3⟩; have hd3 := hb3; obtain ⟨x0, x1, x2, x3, x4, x5, x6, x7, x8, x9, x10, x11, x12, x13, x14, x15, x16⟩ := box17 hd3))
          all_goals (go_ret; refine ⟨?_, ?_⟩)
          all_goals (first | exact below_al _ _ | exact below_nx (below_al _ _) hd4 | exact below_nx (below_al _ _) hd3 | rfl | (simp [*]; done))
        · skip
          have ph1 : decide ((0 : Int) < (nn : Int)) = true := decide_eq_true (by have := of_decide_eq_true h1; omega); have qh1 : 0 < nn := by have := of_decide_eq_true h1; omega
          cases h2 : (decide ((1 : Int) ≤ (ec : Int)))
          · skip
            have ph2 : decide ((0 : Int) < (ec : Int)) = false := decide_eq_false (by have := of_decide_eq_false h2; omega); have qh2 : ¬ 0 < ec := by have := of_decide_eq_false h2; omega
            go_enter Tryz.func11, Tryz.ntmps11
            go_wp2_with (first | (go_at_call 24; refine (HZ.out _).mono ?_; rintro e w3 ⟨rfl, hb3⟩; have hd3 := hb3; obtain ⟨x0, x1, x2, x3, x4, x5, x6, x7, x8, x9, x10, x11, x12, x13, x14, x15, x16⟩ := box17 hd3))
            all_goals (go_ret; refine ⟨?_, ?_⟩)
            all_goals (first | exact below_al _ _ | exact below_nx (below_al _ _) hd4 | exact below_nx (below_al _ _) hd3 | rfl | (simp [*]; done))
          · skip
            have ph2 : decide ((0 : Int) < (ec : Int)) = true := decide_eq_true (by have := of_decide_eq_true h2; omega); have qh2 : 0 < ec := by have := of_decide_eq_true h2; omega
            cases h3 : (decide ((1 : Int) ≤ (sq : Int)))
            · skip
              have ph3 : decide ((0 : Int) < (sq : Int)) = false := decide_eq_false (by have := of_decide_eq_false h3; omega); have qh3 : ¬ 0 < sq := by have := of_decide_eq_false h3; omega
              go_enter Tryz.func11, Tryz.ntmps11
              go_wp2_with (first | (go_at_call 24; refine (HZ.out _).mono ?_; rintro e w3 ⟨rfl, hb3⟩; have hd3 := hb3; obtain ⟨x0, x1, x2, x3, x4, x5, x6, x7, x8, x9, x10, x11, x12, x13, x14, x15, x16⟩ := box17 hd3))
              all_goals (go_ret; refine ⟨?_, ?_⟩)
              all_goals (first | exact below_al _ _ | exact below_nx (below_al _ _) hd4 | exact below_nx (below_al _ _) hd3 | rfl | (simp [*]; done))
            · skip
              have ph3 : decide ((0 : Int) < (sq : Int)) = true := decide_eq_true (by have := of_decide_eq_true h3; omega); have qh3 : 0 < sq := by have := of_decide_eq_true h3; omega
              cases h4 : ((l.length : Int) == 0)
              · skip
                go_enter Tryz.func11, Tryz.ntmps11
                go_wp2_with (first | (go_at_call 24; refine (HZ.out _).mono ?_; rintro e w3 ⟨rfl, hb3⟩; have hd3 := hb3; obtain ⟨x0, x1, x2, x3, x4, x5, x6, x7, x8, x9, x10, x11, x12, x13, x14, x15, x16⟩ := box17 hd3))
                all_goals (go_ret; refine ⟨?_, ?_⟩)
                all_goals (first | exact below_al _ _ | exact below_nx (below_al _ _) hd4 | exact below_nx (below_al _ _) hd3 | rfl | (simp [*]; done))
              · skip
                cases Z
                · skip
                  go_enter Tryz.func11, Tryz.ntmps11
                  go_wp2_with (first | (go_at_call 24; refine (HZ.out _).mono ?_; rintro e w3 ⟨rfl, hb3⟩; have hd3 := hb3; obtain ⟨x0, x1, x2, x3, x4, x5, x6, x7, x8, x9, x10, x11, x12, x13, x14, x15, x16⟩ := box17 hd3))
                  all_goals (go_ret; refine ⟨?_, ?_⟩)
                  all_goals (first | exact below_al _ _ | exact below_nx (below_al _ _) hd4 | exact below_nx (below_al _ _) hd3 | rfl | (simp [*]; done))
                · skip
                  go_enter Tryz.func11, Tryz.ntmps11
                  go_wp2_with (first | (go_at_call 24; refine (HZ.out _).mono ?_; rintro e w3 ⟨rfl, hb3⟩; have hd3 := hb3; obtain ⟨x0, x1, x2, x3, x4, x5, x6, x7, x8, x9, x10, x11, x12, x13, x14, x15, x16⟩ := box17 hd3))
                  all_goals (go_ret; refine ⟨?_, ?_⟩)
                  all_goals (first | exact below_al _ _ | exact below_nx (below_al _ _) hd4 | exact below_nx (below_al _ _) hd3 | rfl | (simp [*]; done))
    · skip
      cases h1 : (decide ((1 : Int) ≤ (nn : Int)))
      · skip
        have ph1 : decide ((0 : Int) < (nn : Int)) = false := decide_eq_false (by have := of_decide_eq_false h1; omega); have qh1 : ¬ 0 < nn := by have := of_decide_eq_false h1; omega
        go_enter Tryz.func11, Tryz.ntmps11
        go_wp2_with (first | (go_at_call 25; refine (HL.out _ (below_al _ _)).mono ?_; rintro e w3 ⟨rfl, hb3⟩; have hd3 := hb3; obtain ⟨x0, x1, x2, x3, x4, x5, x6, x7, x8, x9, x10, x11, x12, x13, x14, x15, x16⟩ := box17 hd3) | (go_at_call 24; refine (HZ.out _).mono ?_; rintro e w4 ⟨rfl, hb4⟩; have hd4 := below_nx hd3 hb4; obtain ⟨y0, y1, y2, y3, y4, y5, y6, y7, y8, y9, y10, y11, y12, y13, y14, y15, y16⟩ := box17 hd4))
        all_goals (go_ret; refine ⟨?_, ?_⟩)
        all_goals (first | exact below_al _ _ | exact below_nx (below_al _ _) hd4 | exact below_nx (below_al _ _) hd3 | rfl | (simp [*]; done))
      · skip
        have ph1 : decide ((0 : Int) < (nn : Int)) = true := decide_eq_true (by have := of_decide_eq_true h1; omega); have qh1 : 0 < nn := by have := of_decide_eq_true h1; omega
        cases h2 : (decide ((1 : Int) ≤ (ec : Int)))
        · skip
          have ph2 : decide ((0 : Int) < (ec : Int)) = false := decide_eq_false (by have := of_decide_eq_false h2; omega); have qh2 : ¬ 0 < ec := by have := of_decide_eq_false h2; omega
          go_enter Tryz.func11, Tryz.ntmps11
          go_wp2_with (first | (go_at_call 25; refine (HL.out _ (below_al _ _)).mono ?_; rintro e w3 ⟨rfl, hb3⟩; have hd3 := hb3; obtain ⟨x0, x1, x2, x3, x4, x5, x6, x7, x8, x9, x10, x11, x12, x13, x14, x15, x16⟩ := box17 hd3) | (go_at_call 24; refine (HZ.out _).mono ?_; rintro e w4 ⟨rfl, hb4⟩; have hd4 := below_nx hd3 hb4; obtain ⟨y0, y1, y2, y3, y4, y5, y6, y7, y8, y9, y10, y11, y12, y13, y14, y15, y16⟩ := box17 hd4))
          all_goals (go_ret; refine ⟨?_, ?_⟩)
          all_goals (first | exact below_al _ _ | exact below_nx (below_al _ _) hd4 | exact below_nx (below_al _ _) hd3 | rfl | (simp [*]; done))
        · skip
          have ph2 : decide ((0 : Int) < (ec : Int)) = true := decide_eq_true (by have := of_decide_eq_true h2; omega); have qh2 : 0 < ec := by have := of_decide_eq_true h2; omega
          cases h3 : (decide ((1 : Int) ≤ (sq : Int)))
          · skip
            have ph3 : decide ((0 : Int) < (sq : Int)) = false := decide_eq_false (by have := of_decide_eq_false h3; omega); have qh3 : ¬ 0 < sq := by have := of_decide_eq_false h3; omega
            go_enter Tryz.func11, Tryz.ntmps11
            go_wp2_with (first | (go_at_call 25; refine (HL.out _ (below_al _ _)).mono ?_; rintro e w3 ⟨rfl, hb3⟩; have hd3 := hb3; obtain ⟨x0, x1, x2, x3, x4, x5, x6, x7, x8, x9, x10, x11, x12, x13, x14, x15, x16⟩ := box17 hd3) | (go_at_call 24; refine (HZ.out _).mono ?_; rintro e w4 ⟨rfl, hb4⟩; have hd4 := below_nx hd3 hb4; obtain ⟨y0, y1, y2, y3, y4, y5, y6, y7, y8, y9, y10, y11, y12, y13, y14, y15, y16⟩ := box17 hd4))
            all_goals (go_ret; refine ⟨?_, ?_⟩)
            all_goals (first | exact below_al _ _ | exact below_nx (below_al _ _) hd4 | exact below_nx (below_al _ _) hd3 | rfl | (simp [*]; done))
          · skip
            have ph3 : decide ((0 : Int) < (sq : Int)) = true := decide_eq_true (by have := of_decide_eq_true h3; omega); have qh3 : 0 < sq := by have := of_decide_eq_true h3; omega
            cases L
            · skip
              go_enter Tryz.func11, Tryz.ntmps11
              go_wp2_with (first | (go_at_call 25; refine (HL.out _ (below_al _ _)).mono ?_; rintro e w3 ⟨rfl, hb3⟩; have hd3 := hb3; obtain ⟨x0, x1, x2, x3, x4, x5, x6, x7, x8, x9, x10, x11, x12, x13, x14, x15, x16⟩ := box17 hd3) | (go_at_call 24; refine (HZ.out _).mono ?_; rintro e w4 ⟨rfl, hb4⟩; have hd4 := below_nx hd3 hb4; obtain ⟨y0, y1, y2, y3, y4, y5, y6, y7, y8, y9, y10, y11, y12, y13, y14, y15, y16⟩ := box17 hd4))
              all_goals (go_ret; refine ⟨?_, ?_⟩)
              all_goals (first | exact below_al _ _ | exact below_nx (below_al _ _) hd4 | exact below_nx (below_al _ _) hd3 | rfl | (simp [*]; done))
            · skip
              cases Z
              · skip
                go_enter Tryz.func11, Tryz.ntmps11
                go_wp2_with (first | (go_at_call 25; refine (HL.out _ (below_al _ _)).mono ?_; rintro e w3 ⟨rfl, hb3⟩; have hd3 := hb3; obtain ⟨x0, x1, x2, x3, x4, x5, x6, x7, x8, x9, x10, x11, x12, x13, x14, x15, x16⟩ := box17 hd3) | (go_at_call 24; refine (HZ.out _).mono ?_; rintro e w4 ⟨rfl, hb4⟩; have hd4 := below_nx hd3 hb4; obtain ⟨y0, y1, y2, y3, y4, y5, y6, y7, y8, y9, y10, y11, y12, y13, y14, y15, y16⟩ := box17 hd4))
                all_goals (go_ret; refine ⟨?_, ?_⟩)
                all_goals (first | exact below_al _ _ | exact below_nx (below_al _ _) hd4 | exact below_nx (below_al _ _) hd3 | rfl | (simp [*]; done))
              · skip
                go_enter Tryz.func11, Tryz.ntmps11
                go_wp2_with (first | (go_at_call 25; refine (HL.out _ (below_al _ _)).mono ?_; rintro e w3 ⟨rfl, hb3⟩; have hd3 := hb3; obtain ⟨x0, x1, x2, x3, x4, x5, x6, x7, x8, x9, x10, x11, x12, x13, x14, x15, x16⟩ := box17 hd3) | (go_at_call 24; refine (HZ.out _).mono ?_; rintro e w4 ⟨rfl, hb4⟩; have hd4 := below_nx hd3 hb4; obtain ⟨y0, y1, y2, y3, y4, y5, y6, y7, y8, y9, y10, y11, y12, y13, y14, y15, y16⟩ := box17 hd4))
                all_goals (go_ret; refine ⟨?_, ?_⟩)
                all_goals (first | exact below_al _ _ | exact below_nx (below_al _ _) hd4 | exact below_nx (below_al _ _) hd3 | rfl | (simp [*]; done))
  · skip
    cases h1 : (decide ((1 : Int) ≤ (nn : Int)))
    · skip
      have ph1 : decide ((0 : Int) < (nn : Int)) = false := decide_eq_false (by have := of_decide_eq_false h1; omega); have qh1 : ¬ 0 < nn := by have := of_decide_eq_false h1; omega
      go_enter Tryz.func11, Tryz.ntmps11
      go_wp2_with (first | (go_at_call 24; refine (HZ.out _).mono ?_; rintro e w3 ⟨rfl, hb3⟩; have hd3 := hb3; obtain ⟨x0, x1, x2, x3, x4, x5, x6, x7, x8, x9, x10, x11, x12, x13, x14, x15, x16⟩ := box17 hd3))
      all_goals (go_ret; refine ⟨?_, ?_⟩)
      all_goals (first | exact below_al _ _ | exact below_nx (below_al _ _) hd4 | exact below_nx (below_al _ _) hd3 | rfl | (simp [*]; done))
    · skip
      have ph1 : decide ((0 : Int) < (nn : Int)) = true := decide_eq_true (by have := of_decide_eq_true h1; omega); have qh1 : 0 < nn := by have := of_decide_eq_true h1; omega
      cases h2 : ((sq : Int) == 0)
      · skip
        go_enter Tryz.func11, Tryz.ntmps11
        go_wp2_with (first | (go_at_call 24; refine (HZ.out _).mono ?_; rintro e w3 ⟨rfl, hb3⟩; have hd3 := hb3; obtain ⟨x0, x1, x2, x3, x4, x5, x6, x7, x8, x9, x10, x11, x12, x13, x14, x15, x16⟩ := box17 hd3))
        all_goals (go_ret; refine ⟨?_, ?_⟩)
        all_goals (first | exact below_al _ _ | exact below_nx (below_al _ _) hd4 | exact below_nx (below_al _ _) hd3 | rfl | (simp [*]; done))
      · skip
        cases h4 : ((l.length : Int) == 0)
        · skip
          go_enter Tryz.func11, Tryz.ntmps11
          go_wp2_with (first | (go_at_call 24; refine (HZ.out _).mono ?_; rintro e w3 ⟨rfl, hb3⟩; have hd3 := hb3; obtain ⟨x0, x1, x2, x3, x4, x5, x6, x7, x8, x9, x10, x11, x12, x13, x14, x15, x16⟩ := box17 hd3))
          all_goals (go_ret; refine ⟨?_, ?_⟩)
          all_goals (first | exact below_al _ _ | exact below_nx (below_al _ _) hd4 | exact below_nx (below_al _ _) hd3 | rfl | (simp [*]; done))
        · skip
          cases Z
          · skip
            go_enter Tryz.func11, Tryz.ntmps11
            go_wp2_with (first | (go_at_call 24; refine (HZ.out _).mono ?_; rintro e w3 ⟨rfl, hb3⟩; have hd3 := hb3; obtain ⟨x0, x1, x2, x3, x4, x5, x6, x7, x8, x9, x10, x11, x12, x13, x14, x15, x16⟩ := box17 hd3))
            all_goals (go_ret; refine ⟨?_, ?_⟩)
            all_goals (first | exact below_al _ _ | exact below_nx (below_al _ _) hd4 | exact below_nx (below_al _ _) hd3 | rfl | (simp [*]; done))
          · skip
            go_enter Tryz.func11, Tryz.ntmps11
            go_wp2_with (first | (go_at_call 24; refine (HZ.out _).mono ?_; rintro e w3 ⟨rfl, hb3⟩; have hd3 := hb3; obtain ⟨x0, x1, x2, x3, x4, x5, x6, x7, x8, x9, x10, x11, x12, x13, x14, x15, x16⟩ := box17 hd3))
            all_goals (go_ret; refine ⟨?_, ?_⟩)
            all_goals (first | exact below_al _ _ | exact below_nx (below_al _ _) hd4 | exact below_nx (below_al _ _) hd3 | rfl | (simp [*]; done))
end Go.Proofs.YtidfgjgbigedeaaGreatDoor
