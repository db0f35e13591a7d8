/- Messages: a message of fields, the program, whole. -/
import Derived.Test.YtidfgjgbigedeaaGreatDoorMiF
import Derived.Test.YtidfgjgbigedeaaGreatDoorMqF
namespace Go.Proofs.YtidfgjgbigedeaaGreatDoor
open Go.RowKit Go.Lib Go.Wq Go.Mq
set_option linter.unusedVariables false
set_option linter.unusedSimpArgs false
set_option maxRecDepth 100000

theorem mMsOf_any (k : Nat) (h1 : 1 ≤ k) (h4 : k ≤ 4) (l : List Fld) (a : Option Addr) (c : Nat) (s : List UInt8) (w : World) (hin : FldsIn w w.heap.size l a l.length) (he : encAll (itsK k) l = some s) (hs : s.length ≤ 65536) (hk : (fat l 0).U = k) (hc : l.length ≤ c) :
    Calls Tryz.prog 28 #[.slice a l.length c] w (MsEnds w (msOf wM k l)) := by
  have hlen := flds_len_k he
  obtain rfl | rfl | rfl | rfl : k = 1 ∨ k = 2 ∨ k = 3 ∨ k = 4 := by omega
  · have h3 : l.length = 3 := hlen
    obtain ⟨b, o, rfl, hb, hf⟩ := flds_c hin (by omega)
    obtain ⟨ra, rc, g0⟩ := (hf 0 (by omega)).range
    have g1 := (hf 1 (by omega)).u
    have g2 := (hf 2 (by omega)).u
    simp only [Nat.zero_mul, Nat.add_zero, Nat.one_mul, Nat.reduceMul] at g0 g1 g2
    rw [h3]
    refine mMsOf_1 _ _ _ _ _ _ _ _ _ _ b o c w hb g0 ?_ g1 g2
    intro W
    have := mWhole_any (fat l 0).U (fat l 0).I (fat l 0).F (fat l 0).B (bOf (fat l 0).T) ra (fat l 0).L.length rc W
    rw [show wM (fat l 0).U = 1 by rw [hk]; rfl] at this
    exact this
  · have h5 : l.length = 5 := hlen
    obtain ⟨hr1, hr2⟩ := advert_rows he
    obtain ⟨b, o, rfl, hb, hf⟩ := flds_c hin (by omega)
    obtain ⟨ra, rc, g0⟩ := (hf 0 (by omega)).range
    have g1 := (hf 1 (by omega)).u
    have g2 := (hf 2 (by omega)).u
    have g3 := (hf 3 (by omega)).u
    obtain ⟨xa, xc, g4, grow⟩ := (hf 4 (by omega)).l
    simp only [Nat.zero_mul, Nat.add_zero, Nat.one_mul, Nat.reduceMul, Nat.add_assoc, Nat.reduceAdd] at g0 g1 g2 g3 g4
    rw [h5]
    refine mMsOf_2 _ _ _ _ _ _ _ _ _ _ _ xa (fat l 4).L.length xc (nwsOf wM (fat l 4).L) b o c w hb g0 ?_ g1 g2 g3 g4 ?_
    · intro W
      have := mWhole_any (fat l 0).U (fat l 0).I (fat l 0).F (fat l 0).B (bOf (fat l 0).T) ra (fat l 0).L.length rc W
      rw [show wM (fat l 0).U = 2 by rw [hk]; rfl] at this
      exact this
    · intro W hW
      exact mNewsOf_any (fat l 4).L xa xc W ((Go.Wq.RowsIn.kept (B := w.heap.size) (fun j hj => hW.block j hj) _ _ _ grow).kept_up hW.size) hr2 (by omega)
  · have h5 : l.length = 4 := hlen
    obtain ⟨b, o, rfl, hb, hf⟩ := flds_c hin (by omega)
    obtain ⟨ra, rc, g0⟩ := (hf 0 (by omega)).range
    have g1 := (hf 1 (by omega)).u
    have g2 := (hf 2 (by omega)).u
    have g3 := (hf 3 (by omega)).u
    simp only [Nat.zero_mul, Nat.add_zero, Nat.one_mul, Nat.reduceMul] at g0 g1 g2 g3
    rw [h5]
    refine mMsOf_3 _ _ _ _ _ _ _ _ _ _ _ b o c w hb g0 ?_ g1 g2 g3
    intro W
    have := mWhole_any (fat l 0).U (fat l 0).I (fat l 0).F (fat l 0).B (bOf (fat l 0).T) ra (fat l 0).L.length rc W
    rw [show wM (fat l 0).U = 3 by rw [hk]; rfl] at this
    exact this
  · have h13 : l.length = 13 := hlen
    obtain ⟨b, o, rfl, hb, hf⟩ := flds_c hin (by omega)
    obtain ⟨ra, rc, g0⟩ := (hf 0 (by omega)).range
    simp only [Nat.zero_mul, Nat.add_zero] at g0
    rw [h13]
    refine mMsOf_4 _ _ _ _ _ _ _ _ (wM (fat l 1).U) (wM (fat l 2).U) (wM (fat l 3).U) (wM (fat l 4).U) (wM (fat l 5).U) (wM (fat l 6).U) (fat l 7).U (wM (fat l 8).U) (bOf (fat l 11).T) (wM (fat l 9).U) (wM (fat l 10).U) (bOf (fat l 12).T) b o c w hb (by omega) g0 ?_ ?_
    · intro W
      have := mWhole_any (fat l 0).U (fat l 0).I (fat l 0).F (fat l 0).B (bOf (fat l 0).T) ra (fat l 0).L.length rc W
      rw [show wM (fat l 0).U = 4 by rw [hk]; rfl] at this
      exact this
    · intro W cc hW
      have K : ∀ {j : Nat} {v : Value}, w.cell? ⟨b, j, none⟩ = some v → W.cell? ⟨b, j, none⟩ = some v := fun h => (hW.cell (p := ⟨b, _, none⟩) hb).trans h
      obtain ⟨a1, c1, q1⟩ := (hf 1 (by omega)).range
      obtain ⟨a2, c2, q2⟩ := (hf 2 (by omega)).range
      obtain ⟨a3, c3, q3⟩ := (hf 3 (by omega)).range
      obtain ⟨a4, c4, q4⟩ := (hf 4 (by omega)).range
      obtain ⟨a5, c5, q5⟩ := (hf 5 (by omega)).range
      obtain ⟨a6, c6, q6⟩ := (hf 6 (by omega)).range
      have q7 := (hf 7 (by omega)).u
      obtain ⟨a8, c8, q8⟩ := (hf 8 (by omega)).range
      obtain ⟨a9, c9, q9⟩ := (hf 9 (by omega)).range
      obtain ⟨a10, c10, q10⟩ := (hf 10 (by omega)).range
      have q11 := (hf 11 (by omega)).t
      have q12 := (hf 12 (by omega)).t
      have R : ∀ {x y : Nat} {cs : List Value}, w.rangeAt b x cs → x = y → W.rangeAt b y cs := fun h e j v hj => by subst e; exact K (h j v hj)
      have C : ∀ {x y : Nat} {v : Value}, w.cell? ⟨b, x, none⟩ = some v → x = y → W.cell? ⟨b, y, none⟩ = some v := fun h e => by subst e; exact K h
      exact mPk_cells _ _ _ _ _ _ _ _ _ _ _ _ _ _ _ _ _ _ _ _ _ _ _ _ _ _ _ _ _ _ _ _ _ _ _ _ _ _ _ _ _ _ _ _ _ _ _ _ _ _ _ _ _ _ _ _ _ _ _ _ _ _ _ _ _ _ _ _ _ _ _ _ (fat l 7).U (bOf (fat l 11).T) (bOf (fat l 12).T) b (o + 6) cc W (Nat.lt_of_lt_of_le hb hW.size)
        (R q1 (by omega)) (R q2 (by omega)) (R q3 (by omega)) (R q4 (by omega)) (R q5 (by omega)) (R q6 (by omega)) (R q8 (by omega)) (R q9 (by omega)) (R q10 (by omega)) (C q7 (by omega)) (C q11 (by omega)) (C q12 (by omega))
end Go.Proofs.YtidfgjgbigedeaaGreatDoor
