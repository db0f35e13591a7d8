/- Messages, the document: Same. -/
import Derived.Test.YtfnmfmelcghjbaaMgH
import Derived.Test.YtfnmfmelcghjbaaWrI
import Derived.Test.YtfnmfmelcghjbaaMgI
namespace Go.Proofs.Ytfnmfmelcghjbaa
open Go.Fq Go.RowKit Go.Mq Go.Lib Go.Wq
set_option linter.unusedVariables false
set_option linter.unusedSimpArgs false
set_option maxRecDepth 100000

theorem same_b {P : Prop} {r : Bool} (h : r = true ↔ P) (w w' : World) (hb : Below w.heap.size w w') : (∃ q : Bool, Ending.returned (.bool r) = .returned (.bool q) ∧ (q = true ↔ P)) ∧ Below w.heap.size w w' := ⟨⟨r, rfl, h⟩, hb⟩
def IsSame (P : Prop) (w : World) (e : Ending) (w' : World) : Prop := (∃ r : Bool, e = .returned (.bool r) ∧ (r = true ↔ P)) ∧ Below w.heap.size w w'
theorem is_no {P : Prop} {w w' : World} (h : ¬ P) (hb : Below w.heap.size w w') : IsSame P w (.returned (.bool false)) w' := ⟨⟨false, rfl, by simp [h]⟩, hb⟩
theorem is_yes {P : Prop} {w w' : World} (h : P) (hb : Below w.heap.size w w') : IsSame P w (.returned (.bool true)) w' := ⟨⟨true, rfl, by simp [h]⟩, hb⟩

set_option maxHeartbeats 4000000 in
theorem rSameNews_any (l l' : List Nw) (a : Option Addr) (c : Nat) (a' : Option Addr) (c' : Nat) (B : Nat) (w : World) (hin : NewsIn w B l a) (hin' : NewsIn w B l' a') (hB : B ≤ w.heap.size) (hl62 : l.length < 4611686018427387904) :
    Calls Try.prog 14 #[.slice a l.length c, .slice a' l'.length c'] w fun e w' => IsSame (l = l') w e w' := by
  have HF := Lib.hid hin
  have HG := Lib.hid hin'
  have hwb := w_bits
  have hst := n_store
  clear hin hin'
  by_cases hlen : l.length = l'.length
  · have HLEN := Lib.hid hlen
    have hne : ((l.length : Int) != (l'.length : Int)) = false := by simp; omega
    have hne2 : (l.length != l'.length) = false := by simp; omega
    clear hlen
    go_enter Try.func14, Try.ntmps14
    go_wp2_with fail
    go_loopw [5] (fun v wr => ∃ (k : Nat), k ≤ l.length ∧ v = .int .i64 (k : Int) ∧ l.take k = l'.take k ∧ Below w.heap.size w wr) (fun v _ => l.length - (intOf v).toNat)
    case atStart => exact ⟨0, Nat.zero_le _, rfl, rfl, Below.refl _ _⟩
    case round =>
      obtain ⟨k, hk, rfl, htk, hbel⟩ := hrel
      have HT := Lib.hid htk
      have HBW := Lib.hid hbel
      have hsz := hbel.size
      by_cases hlt : k < l.length
      · have hlt2 : k < l'.length := by have := HLEN.out; omega
        obtain ⟨fb, fo, rfl, hfb, hfl⟩ := (HF.out.kept (B' := B) (fun j hj => hbel.block j (by omega)) (Nat.le_refl _)).at k hlt
        obtain ⟨gb, go, rfl, hgb, hgl⟩ := (HG.out.kept (B' := B) (fun j hj => hbel.block j (by omega)) (Nat.le_refl _)).at k hlt2
        have HNO : Hid (l[k] ≠ l'[k] → l ≠ l') := Lib.hid (fun h e => h (by subst e; rfl))
        have HYES : Hid (l[k] = l'[k] → l.take (k + 1) = l'.take (k + 1)) := Lib.hid (fun h => by rw [List.take_succ_eq_append_getElem hlt, List.take_succ_eq_append_getElem hlt2, HT.out, h])
        obtain ⟨p0, p1, p2, p3, p4⟩ := hfl k hlt
        obtain ⟨q0, q1, q2, q3, q4⟩ := hgl k hlt2
        clear hfl hgl
        generalize l[k] = x at *
        generalize l'[k] = y at *
        obtain ⟨d, kd, ds, r, h⟩ := x
        obtain ⟨d', kd', ds', r', h'⟩ := y
        simp only at p0 p1 p2 p3 p4 q0 q1 q2 q3 q4
        have hfb2 : fb < wr.heap.size := by omega
        have hgb2 : gb < wr.heap.size := by omega
        clear htk hbel
        have hix : 0 ≤ (k : Int) ∧ (k : Int) < (l.length : Int) := by omega
        have hix2 : 0 ≤ (k : Int) ∧ (k : Int) < (l'.length : Int) := by omega
        have hixk := hix.2
        have hixm := hix2.2
        have hkb : (k : Int) < 4611686018427387904 := by omega
        have HB2 : Hid (∀ o1 o2, Below w.heap.size w ((wr.alloc o1).alloc o2)) := Lib.hid (fun o1 o2 => (HBW.out.alloc hsz _).alloc (by simp; omega) _)
        by_cases z0 : d = d'
        · subst z0
          by_cases z1 : kd = kd'
          · subst z1
            by_cases z4 : h = h'
            · subst z4
              by_cases z2 : ds = ds'
              · subst z2
                by_cases z3 : r = r'
                · subst z3
                  have HY := Lib.hid (HYES.out rfl)
                  go_wp2_with fail
                  go_quiet (fail)
                  go_wp2_with fail
                  refine ⟨⟨k + 1, by omega, by simp, HY.out, drawn_below (HB2.out _ _) (by exact ⟨rfl, rfl, rfl, rfl⟩)⟩, ?_⟩
                  simp [intOf]; omega
                · have d0 : ((r : Int) != (r' : Int)) = true := bne_c z3
                  have HNE : Hid (l ≠ l') := Lib.hid (HNO.out (fun e => z3 (by injection e)))
                  go_wp2_with fail
                  go_quiet (fail)
                  go_wp2_with fail
                  go_ret
                  exact is_no HNE.out (drawn_below (HB2.out _ _) (by exact ⟨rfl, rfl, rfl, rfl⟩))
              · have d0 : ((ds : Int) != (ds' : Int)) = true := bne_c z2
                have HNE : Hid (l ≠ l') := Lib.hid (HNO.out (fun e => z2 (by injection e)))
                go_wp2_with fail
                go_quiet (fail)
                go_wp2_with fail
                go_ret
                exact is_no HNE.out (drawn_below (HB2.out _ _) (by exact ⟨rfl, rfl, rfl, rfl⟩))
            · have d0 : (h != h') = true := bne_i z4
              have HNE : Hid (l ≠ l') := Lib.hid (HNO.out (fun e => z4 (by injection e)))
              go_wp2_with fail
              go_quiet (fail)
              go_wp2_with fail
              go_ret
              exact is_no HNE.out (drawn_below (HB2.out _ _) (by exact ⟨rfl, rfl, rfl, rfl⟩))
          · have d0 : (kd != kd') = true := bne_i z1
            have HNE : Hid (l ≠ l') := Lib.hid (HNO.out (fun e => z1 (by injection e)))
            go_wp2_with fail
            go_quiet (fail)
            go_wp2_with fail
            go_ret
            exact is_no HNE.out (drawn_below (HB2.out _ _) (by exact ⟨rfl, rfl, rfl, rfl⟩))
        · have d0 : (d != d') = true := bne_i z0
          have HNE : Hid (l ≠ l') := Lib.hid (HNO.out (fun e => z0 (by injection e)))
          go_wp2_with fail
          go_quiet (fail)
          go_wp2_with fail
          go_ret
          exact is_no HNE.out (drawn_below (HB2.out _ _) (by exact ⟨rfl, rfl, rfl, rfl⟩))
      · obtain rfl : k = l.length := by omega
        have HALL : Hid (l = l') := Lib.hid (by have h := HT.out; rwa [List.take_length, HLEN.out, List.take_length] at h)
        have hnl : ¬ ((l.length : Int) < (l.length : Int)) := by omega
        clear htk hbel
        go_wp2_with fail
        go_ret
        exact is_yes HALL.out HBW.out
  · have hne : ((l.length : Int) != (l'.length : Int)) = true := by simp; omega
    have hne2 : (l.length != l'.length) = true := by simp; omega
    have HNE : Hid (l ≠ l') := Lib.hid (fun h => hlen (by rw [h]))
    go_enter Try.func14, Try.ntmps14
    go_wp2_with fail
    go_ret
    exact is_no HNE.out (Below.refl _ _)

theorem below_al2 (w : World) (o o' : Obj) : Below w.heap.size w ((w.alloc o).alloc o') := ((Below.refl _ _).alloc (Nat.le_refl _) _).alloc (by simp) _

/-- Two boxes of seventeen cells, behind calls. -/
theorem box17b {w w' : World} {v0 v1 v2 v3 v4 v5 v6 v7 v8 v9 v10 v11 v12 v13 v14 v15 v16 u0 u1 u2 u3 u4 u5 u6 u7 u8 u9 u10 u11 u12 u13 u14 u15 u16 : Value} {t t2 : TypeId} (k : Below ((w.alloc (.cells #[v0, v1, v2, v3, v4, v5, v6, v7, v8, v9, v10, v11, v12, v13, v14, v15, v16] t)).alloc (.cells #[u0, u1, u2, u3, u4, u5, u6, u7, u8, u9, u10, u11, u12, u13, u14, u15, u16] t2)).heap.size ((w.alloc (.cells #[v0, v1, v2, v3, v4, v5, v6, v7, v8, v9, v10, v11, v12, v13, v14, v15, v16] t)).alloc (.cells #[u0, u1, u2, u3, u4, u5, u6, u7, u8, u9, u10, u11, u12, u13, u14, u15, u16] t2)) w') :
    w'.cell? ⟨w.heap.size, 0, none⟩ = some v0 ∧ w'.cell? ⟨w.heap.size, 1, none⟩ = some v1 ∧ w'.cell? ⟨w.heap.size, 2, none⟩ = some v2 ∧ w'.cell? ⟨w.heap.size, 3, none⟩ = some v3 ∧ w'.cell? ⟨w.heap.size, 4, none⟩ = some v4 ∧ w'.cell? ⟨w.heap.size, 5, none⟩ = some v5 ∧ w'.cell? ⟨w.heap.size, 6, none⟩ = some v6 ∧ w'.cell? ⟨w.heap.size, 7, none⟩ = some v7 ∧ w'.cell? ⟨w.heap.size, 8, none⟩ = some v8 ∧ w'.cell? ⟨w.heap.size, 9, none⟩ = some v9 ∧ w'.cell? ⟨w.heap.size, 10, none⟩ = some v10 ∧ w'.cell? ⟨w.heap.size, 11, none⟩ = some v11 ∧ w'.cell? ⟨w.heap.size, 12, none⟩ = some v12 ∧ w'.cell? ⟨w.heap.size, 13, none⟩ = some v13 ∧ w'.cell? ⟨w.heap.size, 14, none⟩ = some v14 ∧ w'.cell? ⟨w.heap.size, 15, none⟩ = some v15 ∧ w'.cell? ⟨w.heap.size, 16, none⟩ = some v16 := by
  have hb : w.heap.size < ((w.alloc (.cells #[v0, v1, v2, v3, v4, v5, v6, v7, v8, v9, v10, v11, v12, v13, v14, v15, v16] t)).alloc (.cells #[u0, u1, u2, u3, u4, u5, u6, u7, u8, u9, u10, u11, u12, u13, u14, u15, u16] t2)).heap.size := by simp; omega
  refine ⟨(k.cell (p := ⟨w.heap.size, 0, none⟩) hb).trans ?_, (k.cell (p := ⟨w.heap.size, 1, none⟩) hb).trans ?_, (k.cell (p := ⟨w.heap.size, 2, none⟩) hb).trans ?_, (k.cell (p := ⟨w.heap.size, 3, none⟩) hb).trans ?_, (k.cell (p := ⟨w.heap.size, 4, none⟩) hb).trans ?_, (k.cell (p := ⟨w.heap.size, 5, none⟩) hb).trans ?_, (k.cell (p := ⟨w.heap.size, 6, none⟩) hb).trans ?_, (k.cell (p := ⟨w.heap.size, 7, none⟩) hb).trans ?_, (k.cell (p := ⟨w.heap.size, 8, none⟩) hb).trans ?_, (k.cell (p := ⟨w.heap.size, 9, none⟩) hb).trans ?_, (k.cell (p := ⟨w.heap.size, 10, none⟩) hb).trans ?_, (k.cell (p := ⟨w.heap.size, 11, none⟩) hb).trans ?_, (k.cell (p := ⟨w.heap.size, 12, none⟩) hb).trans ?_, (k.cell (p := ⟨w.heap.size, 13, none⟩) hb).trans ?_, (k.cell (p := ⟨w.heap.size, 14, none⟩) hb).trans ?_, (k.cell (p := ⟨w.heap.size, 15, none⟩) hb).trans ?_, (k.cell (p := ⟨w.heap.size, 16, none⟩) hb).trans ?_⟩ <;> simp [go_sem]
theorem box17c {w w' : World} {v0 v1 v2 v3 v4 v5 v6 v7 v8 v9 v10 v11 v12 v13 v14 v15 v16 u0 u1 u2 u3 u4 u5 u6 u7 u8 u9 u10 u11 u12 u13 u14 u15 u16 : Value} {t t2 : TypeId} (k : Below ((w.alloc (.cells #[v0, v1, v2, v3, v4, v5, v6, v7, v8, v9, v10, v11, v12, v13, v14, v15, v16] t)).alloc (.cells #[u0, u1, u2, u3, u4, u5, u6, u7, u8, u9, u10, u11, u12, u13, u14, u15, u16] t2)).heap.size ((w.alloc (.cells #[v0, v1, v2, v3, v4, v5, v6, v7, v8, v9, v10, v11, v12, v13, v14, v15, v16] t)).alloc (.cells #[u0, u1, u2, u3, u4, u5, u6, u7, u8, u9, u10, u11, u12, u13, u14, u15, u16] t2)) w') :
    w'.cell? ⟨w.heap.size + 1, 0, none⟩ = some u0 ∧ w'.cell? ⟨w.heap.size + 1, 1, none⟩ = some u1 ∧ w'.cell? ⟨w.heap.size + 1, 2, none⟩ = some u2 ∧ w'.cell? ⟨w.heap.size + 1, 3, none⟩ = some u3 ∧ w'.cell? ⟨w.heap.size + 1, 4, none⟩ = some u4 ∧ w'.cell? ⟨w.heap.size + 1, 5, none⟩ = some u5 ∧ w'.cell? ⟨w.heap.size + 1, 6, none⟩ = some u6 ∧ w'.cell? ⟨w.heap.size + 1, 7, none⟩ = some u7 ∧ w'.cell? ⟨w.heap.size + 1, 8, none⟩ = some u8 ∧ w'.cell? ⟨w.heap.size + 1, 9, none⟩ = some u9 ∧ w'.cell? ⟨w.heap.size + 1, 10, none⟩ = some u10 ∧ w'.cell? ⟨w.heap.size + 1, 11, none⟩ = some u11 ∧ w'.cell? ⟨w.heap.size + 1, 12, none⟩ = some u12 ∧ w'.cell? ⟨w.heap.size + 1, 13, none⟩ = some u13 ∧ w'.cell? ⟨w.heap.size + 1, 14, none⟩ = some u14 ∧ w'.cell? ⟨w.heap.size + 1, 15, none⟩ = some u15 ∧ w'.cell? ⟨w.heap.size + 1, 16, none⟩ = some u16 := by
  have hb : w.heap.size + 1 < ((w.alloc (.cells #[v0, v1, v2, v3, v4, v5, v6, v7, v8, v9, v10, v11, v12, v13, v14, v15, v16] t)).alloc (.cells #[u0, u1, u2, u3, u4, u5, u6, u7, u8, u9, u10, u11, u12, u13, u14, u15, u16] t2)).heap.size := by simp
  refine ⟨(k.cell (p := ⟨w.heap.size + 1, 0, none⟩) hb).trans ?_, (k.cell (p := ⟨w.heap.size + 1, 1, none⟩) hb).trans ?_, (k.cell (p := ⟨w.heap.size + 1, 2, none⟩) hb).trans ?_, (k.cell (p := ⟨w.heap.size + 1, 3, none⟩) hb).trans ?_, (k.cell (p := ⟨w.heap.size + 1, 4, none⟩) hb).trans ?_, (k.cell (p := ⟨w.heap.size + 1, 5, none⟩) hb).trans ?_, (k.cell (p := ⟨w.heap.size + 1, 6, none⟩) hb).trans ?_, (k.cell (p := ⟨w.heap.size + 1, 7, none⟩) hb).trans ?_, (k.cell (p := ⟨w.heap.size + 1, 8, none⟩) hb).trans ?_, (k.cell (p := ⟨w.heap.size + 1, 9, none⟩) hb).trans ?_, (k.cell (p := ⟨w.heap.size + 1, 10, none⟩) hb).trans ?_, (k.cell (p := ⟨w.heap.size + 1, 11, none⟩) hb).trans ?_, (k.cell (p := ⟨w.heap.size + 1, 12, none⟩) hb).trans ?_, (k.cell (p := ⟨w.heap.size + 1, 13, none⟩) hb).trans ?_, (k.cell (p := ⟨w.heap.size + 1, 14, none⟩) hb).trans ?_, (k.cell (p := ⟨w.heap.size + 1, 15, none⟩) hb).trans ?_, (k.cell (p := ⟨w.heap.size + 1, 16, none⟩) hb).trans ?_⟩ <;> simp [go_sem]

end Go.Proofs.Ytfnmfmelcghjbaa
