/- Messages: a message of fields, the program, whole. Messages: read, the program. -/
import Derived.Test.YtidfgjgbigedeaaGreatDoorMiF
import Derived.Test.YtidfgjgbigedeaaGreatDoorMqF
import Derived.Test.YtidfgjgbigedeaaGreatDoorWpU
import Derived.Test.YtidfgjgbigedeaaGreatDoorMhF
section
namespace Go.Proofs.YtidfgjgbigedeaaGreatDoor
open Go.RowKit Go.Lib Go.Wq Go.Mq
set_option linter.unusedVariables false
set_option linter.unusedSimpArgs false
set_option maxRecDepth 100000

theorem mMsOf_any (k : Nat) (h1 : 1 ≤ k) (h4 : k ≤ 4) (l : List Fld) (a : Option Addr) (c : Nat) (s : List UInt8) (w : World) (hin : FldsIn w w.heap.size l a l.length) (he : encAll (itsK k) l = some s) (hs : s.length ≤ 65536) (hk : (fat l 0).U = k) (hc : l.length ≤ c) :
    Calls Tryz.prog 28 #[.slice a l.length c] w (MsEnds w (msOf wM k l)) := by
  have hlen := flds_len_k he
  obtain rfl | rfl | rfl | rfl : k = 1 ∨ k = 2 ∨ k = 3 ∨ k = 4 := by omega
  · have h3 : l.length = 3 := hlen
    obtain ⟨b, o, rfl, hb, hf⟩ := flds_c hin (by omega)
    obtain ⟨ra, rc, g0⟩ := (hf 0 (by omega)).range
    have g1 := (hf 1 (by omega)).u
    have g2 := (hf 2 (by omega)).u
    simp only [Nat.zero_mul, Nat.add_zero, Nat.one_mul, Nat.reduceMul] at g0 g1 g2
    rw [h3]
    refine mMsOf_1 _ _ _ _ _ _ _ _ _ _ b o c w hb g0 ?_ g1 g2
    intro W
    have := mWhole_any (fat l 0).U (fat l 0).I (fat l 0).F (fat l 0).B (bOf (fat l 0).T) ra (fat l 0).L.length rc W
    rw [show wM (fat l 0).U = 1 by rw [hk]; rfl] at this
    exact this
  · have h5 : l.length = 5 := hlen
    obtain ⟨hr1, hr2⟩ := advert_rows he
    obtain ⟨b, o, rfl, hb, hf⟩ := flds_c hin (by omega)
    obtain ⟨ra, rc, g0⟩ := (hf 0 (by omega)).range
    have g1 := (hf 1 (by omega)).u
    have g2 := (hf 2 (by omega)).u
    have g3 := (hf 3 (by omega)).u
    obtain ⟨xa, xc, g4, grow⟩ := (hf 4 (by omega)).l
    simp only [Nat.zero_mul, Nat.add_zero, Nat.one_mul, Nat.reduceMul, Nat.add_assoc, Nat.reduceAdd] at g0 g1 g2 g3 g4
    rw [h5]
    refine mMsOf_2 _ _ _ _ _ _ _ _ _ _ _ xa (fat l 4).L.length xc (nwsOf wM (fat l 4).L) b o c w hb g0 ?_ g1 g2 g3 g4 ?_
    · intro W
      have := mWhole_any (fat l 0).U (fat l 0).I (fat l 0).F (fat l 0).B (bOf (fat l 0).T) ra (fat l 0).L.length rc W
      rw [show wM (fat l 0).U = 2 by rw [hk]; rfl] at this
      exact this
    · intro W hW
      exact mNewsOf_any (fat l 4).L xa xc W ((Go.Wq.RowsIn.kept (B := w.heap.size) (fun j hj => hW.block j hj) _ _ _ grow).kept_up hW.size) hr2 (by omega)
  · have h5 : l.length = 4 := hlen
    obtain ⟨b, o, rfl, hb, hf⟩ := flds_c hin (by omega)
    obtain ⟨ra, rc, g0⟩ := (hf 0 (by omega)).range
    have g1 := (hf 1 (by omega)).u
    have g2 := (hf 2 (by omega)).u
    have g3 := (hf 3 (by omega)).u
    simp only [Nat.zero_mul, Nat.add_zero, Nat.one_mul, Nat.reduceMul] at g0 g1 g2 g3
    rw [h5]
    refine mMsOf_3 _ _ _ _ _ _ _ _ _ _ _ b o c w hb g0 ?_ g1 g2 g3
    intro W
    have := mWhole_any (fat l 0).U (fat l 0).I (fat l 0).F (fat l 0).B (bOf (fat l 0).T) ra (fat l 0).L.length rc W
    rw [show wM (fat l 0).U = 3 by rw [hk]; rfl] at this
    exact this
  · have h13 : l.length = 13 := hlen
    obtain ⟨b, o, rfl, hb, hf⟩ := flds_c hin (by omega)
    obtain ⟨ra, rc, g0⟩ := (hf 0 (by omega)).range
    simp only [Nat.zero_mul, Nat.add_zero] at g0
    rw [h13]
    refine mMsOf_4 _ _ _ _ _ _ _ _ (wM (fat l 1).U) (wM (fat l 2).U) (wM (fat l 3).U) (wM (fat l 4).U) (wM (fat l 5).U) (wM (fat l 6).U) (fat l 7).U (wM (fat l 8).U) (bOf (fat l 11).T) (wM (fat l 9).U) (wM (fat l 10).U) (bOf (fat l 12).T) b o c w hb (by omega) g0 ?_ ?_
    · intro W
      have := mWhole_any (fat l 0).U (fat l 0).I (fat l 0).F (fat l 0).B (bOf (fat l 0).T) ra (fat l 0).L.length rc W
      rw [show wM (fat l 0).U = 4 by rw [hk]; rfl] at this
      exact this
    · intro W cc hW
      have K : ∀ {j : Nat} {v : Value}, w.cell? ⟨b, j, none⟩ = some v → W.cell? ⟨b, j, none⟩ = some v := fun h => (hW.cell (p := ⟨b, _, none⟩) hb).trans h
      obtain ⟨a1, c1, q1⟩ := (hf 1 (by omega)).range
      obtain ⟨a2, c2, q2⟩ := (hf 2 (by omega)).range
      obtain ⟨a3, c3, q3⟩ := (hf 3 (by omega)).range
      obtain ⟨a4, c4, q4⟩ := (hf 4 (by omega)).range
      obtain ⟨a5, c5, q5⟩ := (hf 5 (by omega)).range
      obtain ⟨a6, c6, q6⟩ := (hf 6 (by omega)).range
      have q7 := (hf 7 (by omega)).u
      obtain ⟨a8, c8, q8⟩ := (hf 8 (by omega)).range
      obtain ⟨a9, c9, q9⟩ := (hf 9 (by omega)).range
      obtain ⟨a10, c10, q10⟩ := (hf 10 (by omega)).range
      have q11 := (hf 11 (by omega)).t
      have q12 := (hf 12 (by omega)).t
      have R : ∀ {x y : Nat} {cs : List Value}, w.rangeAt b x cs → x = y → W.rangeAt b y cs := fun h e j v hj => by subst e; exact K (h j v hj)
      have C : ∀ {x y : Nat} {v : Value}, w.cell? ⟨b, x, none⟩ = some v → x = y → W.cell? ⟨b, y, none⟩ = some v := fun h e => by subst e; exact K h
      exact mPk_cells _ _ _ _ _ _ _ _ _ _ _ _ _ _ _ _ _ _ _ _ _ _ _ _ _ _ _ _ _ _ _ _ _ _ _ _ _ _ _ _ _ _ _ _ _ _ _ _ _ _ _ _ _ _ _ _ _ _ _ _ _ _ _ _ _ _ _ _ _ _ _ _ (fat l 7).U (bOf (fat l 11).T) (bOf (fat l 12).T) b (o + 6) cc W (Nat.lt_of_lt_of_le hb hW.size)
        (R q1 (by omega)) (R q2 (by omega)) (R q3 (by omega)) (R q4 (by omega)) (R q5 (by omega)) (R q6 (by omega)) (R q8 (by omega)) (R q9 (by omega)) (R q10 (by omega)) (C q7 (by omega)) (C q11 (by omega)) (C q12 (by omega))
end Go.Proofs.YtidfgjgbigedeaaGreatDoor
end

section
namespace Go.Proofs.YtidfgjgbigedeaaGreatDoor
open Go.RowKit Go.Lib Go.Wq Go.Mq
set_option linter.unusedVariables false
set_option linter.unusedSimpArgs false
set_option maxRecDepth 100000

/-- How read ends: there is no message, or these are the fields that one may be made of. -/
def ReadEnds (s : ByteArray) (w : World) (e : Ending) (w' : World) : Prop := Below w.heap.size w w' ∧ ((∃ (v : Value) (er : Int), er ≠ 0 ∧ e = .returned (.tuple #[v, .int .i64 er]) ∧ decM s.data.toList = none) ∨
  ∃ (k : Nat) (l : List Fld) (a : Option Addr) (c : Nat), 1 ≤ k ∧ k ≤ 4 ∧ decM s.data.toList = (if mayB (msOf wM k l) then some (msOf wM k l) else none) ∧ encAll (itsK k) l = some s.data.toList ∧ (∀ y ∈ l, Fine y) ∧ (fat l 0).U = k ∧
    e = .returned (.tuple #[.slice a l.length c, .int .i64 0]) ∧ FldsS w' (New w.heap.size w') l a l.length ∧ l.length ≤ c)
theorem bad_nat {er : Nat} (h : ¬ er = 0) : ((er : Int) != 0) = true := by simp [h]
theorem new_in {w w' : World} {base : Nat} {l : List Fld} {a : Option Addr} {n : Nat} (h : FldsS w (New base w) l a n) (hb : Below w.heap.size w w') : FldsIn w' w'.heap.size l a n :=
  FldsS.toIn (S := New base w) (fun k hk => Nat.lt_of_lt_of_le hk.2 hb.size) _ _ _ (FldsS.kept (fun k hk => hb.block k hk.2) (fun k h => h) _ _ _ h)
theorem read_of {s : List UInt8} {k : Nat} (hs : s.length ≤ 65536) (h1 : (headSays [117] s).2.2 = 0) (hk : (fat (headSays [117] s).1 0).U = k) (hk1 : 1 ≤ k) (hk4 : k ≤ 4) (h2 : (decSays (shpL k) s).2.2 = 0) :
    decM s = (if mayB (msOf wM k (decSays (shpL k) s).1) then some (msOf wM k (decSays (shpL k) s).1) else none) ∧ encAll (itsK k) (decSays (shpL k) s).1 = some s ∧ (∀ y ∈ (decSays (shpL k) s).1, Fine y) ∧ (fat (decSays (shpL k) s).1 0).U = k := by
  obtain ⟨its, g1, g2, g3, g4⟩ := dec_only h2
  obtain rfl := Option.some.inj ((shape_k hk1 hk4).symm.trans g1)
  obtain ⟨g5, g6⟩ := head_first hk1 hk4 h2
  exact ⟨dec_made hs h1 hk hk1 hk4 h2, g3, fun y hy => ⟨g4 y hy, all_fine _ _ _ (shape_ok (shape_k hk1 hk4)) (shape_smP (shape_k hk1 hk4)).2 g3 g2 y hy⟩, by rw [← g6, hk]⟩

set_option maxHeartbeats 4000000 in
theorem mRead_any (s : ByteArray) (hs : s.size ≤ 65536) (w : World) (hg : Handle w) (hsh : Shps w) : Calls Tryz.prog 27 #[.string s] w (ReadEnds s w) := by
  have hl : s.data.toList.length = s.size := Array.length_toList
  have HC := Lib.hid (wireHeadC_any ⟨#[117]⟩ s (by decide) (by omega) w hg)
  have HD1 : Hid (∀ W, Below w.heap.size w W → Calls Tryz.prog 54 #[.string (shp 1), .string s] W (TellEndsC (decSays (shpL 1) s.data.toList) W)) := Lib.hid (fun W h => wireDecodeC_any (shp 1) s (by decide) (by omega) W (hg.below h))
  have HD2 : Hid (∀ W, Below w.heap.size w W → Calls Tryz.prog 54 #[.string (shp 2), .string s] W (TellEndsC (decSays (shpL 2) s.data.toList) W)) := Lib.hid (fun W h => wireDecodeC_any (shp 2) s (by decide) (by omega) W (hg.below h))
  have HD3 : Hid (∀ W, Below w.heap.size w W → Calls Tryz.prog 54 #[.string (shp 3), .string s] W (TellEndsC (decSays (shpL 3) s.data.toList) W)) := Lib.hid (fun W h => wireDecodeC_any (shp 3) s (by decide) (by omega) W (hg.below h))
  have HD4 : Hid (∀ W, Below w.heap.size w W → Calls Tryz.prog 54 #[.string (shp 4), .string s] W (TellEndsC (decSays (shpL 4) s.data.toList) W)) := Lib.hid (fun W h => wireDecodeC_any (shp 4) s (by decide) (by omega) W (hg.below h))
  have HSH := Lib.hid (fun (W : World) (h : Below w.heap.size w W) => hsh.below h)
  have N1 := Lib.hid (dec_no1 (s := s.data.toList))
  have N2 := Lib.hid (dec_no2 (s := s.data.toList))
  have N3 := Lib.hid (dec_no3 (s := s.data.toList))
  have HL := Lib.hid (head_len (s := s.data.toList))
  have HR := Lib.hid (fun (k : Nat) => read_of (s := s.data.toList) (k := k) (by omega))
  have e117 : (⟨#[117]⟩ : ByteArray).data.toList = [117] := rfl
  rw [e117] at HC
  generalize headSays [117] s.data.toList = H at *
  obtain ⟨hl0, hn0, he0⟩ := H
  simp only [] at N1 N2 N3 HL HR
  clear hg hsh hl e117
  by_cases hz : he0 = 0
  · subst hz
    go_enter Tryz.func27, Tryz.ntmps27
    go_wp2_with fail
    refine HC.out.mono ?_
    rintro e w1 ⟨b1, a1, c1, rfl, f1, -⟩
    have h1 := HL.out (by first | rfl | trivial)
    obtain ⟨bb, oo, rfl, hbb, hf⟩ := flds_c (new_in f1 (Below.refl _ _)) (by simp only []; omega)
    have k0 := (hf 0 (by simp only []; omega)).u
    simp only [Nat.zero_mul, Nat.add_zero] at k0
    have B1 := Lib.hid b1
    have S1 := HSH.out w1 b1
    obtain ⟨-, s1, s2, s3, s4⟩ := S1
    have i1 : (0 : Int) < (hl0.length : Int) := by rw [h1]; decide
    clear f1 hf b1
    try simp only [] at h1 k0
    generalize hu : (fat hl0 0).U = u at *
    by_cases hu0 : u = 0
    · subst hu0
      have HN := Lib.hid (N2.out (Or.inl rfl))
      clear s1 s2 s3 s4
      go_wp2_with fail
      refine bodyPost_ret (v := .tuple #[.slice none 0 0, .int .i64 60]) (by simp [results, Tryz.results27, go_sem]) rfl ?_
      exact ⟨B1.out, Or.inl ⟨_, 60, by decide, rfl, HN.out⟩⟩
    · by_cases hu5 : 5 ≤ u
      · have HN := Lib.hid (N2.out (Or.inr hu5))
        have t0 : ((u : Int) == 0) = false := by simp [hu0]
        have t5 : (5 : Int) ≤ (u : Int) := by omega
        clear s1 s2 s3 s4
        go_wp2_with fail
        refine bodyPost_ret (v := .tuple #[.slice none 0 0, .int .i64 60]) (by simp [results, Tryz.results27, go_sem]) rfl ?_
        exact ⟨B1.out, Or.inl ⟨_, 60, by decide, rfl, HN.out⟩⟩
      · obtain rfl | rfl | rfl | rfl : u = 1 ∨ u = 2 ∨ u = 3 ∨ u = 4 := by omega
        · have HRk := HR.out 1 (by first | rfl | trivial) rfl (by omega) (by omega)
          have N3k := Lib.hid (N3.out)
          clear s2 s3 s4 HD2 HD3 HD4 HR N1 N2 N3 HL
          have HRK := Lib.hid HRk
          clear HRk
          generalize decSays (shpL 1) s.data.toList = D at *
          obtain ⟨dl, dn, de⟩ := D
          go_wp2_with fail
          refine (HD1.out _ B1.out).mono ?_
          rintro e w2 ⟨b2, a2, c2, rfl, f2, hc2⟩
          have B2 := Lib.hid (below_nx B1.out b2)
          have F2 := Lib.hid f2
          have C2 := Lib.hid hc2
          have SZ := Lib.hid B1.out.size
          clear b2 f2 hc2
          go_wp2_with fail
          refine bodyPost_ret (v := .tuple #[.slice a2 dl.length c2, .int .i64 (de : Int)]) (by simp [results, Tryz.results27, go_sem]) rfl ?_
          by_cases hde : de = 0
          · subst hde
            obtain ⟨r1, r2, r4, r3⟩ := HRK.out rfl
            exact ⟨B2.out, Or.inr ⟨1, dl, a2, c2, by omega, by omega, r1, r2, r4, r3, rfl, FldsS.kept (fun _ _ => rfl) (fun j hj => ⟨Nat.le_trans SZ.out hj.1, hj.2⟩) _ _ _ F2.out, C2.out⟩⟩
          · exact ⟨B2.out, Or.inl ⟨_, (de : Int), by omega, rfl, N3k.out (by first | exact hde | simpa using hde)⟩⟩
        · have HRk := HR.out 2 (by first | rfl | trivial) rfl (by omega) (by omega)
          have N3k := Lib.hid (N3.out)
          clear s1 s3 s4 HD1 HD3 HD4 HR N1 N2 N3 HL
          have HRK := Lib.hid HRk
          clear HRk
          generalize decSays (shpL 2) s.data.toList = D at *
          obtain ⟨dl, dn, de⟩ := D
          go_wp2_with fail
          refine (HD2.out _ B1.out).mono ?_
          rintro e w2 ⟨b2, a2, c2, rfl, f2, hc2⟩
          have B2 := Lib.hid (below_nx B1.out b2)
          have F2 := Lib.hid f2
          have C2 := Lib.hid hc2
          have SZ := Lib.hid B1.out.size
          clear b2 f2 hc2
          go_wp2_with fail
          refine bodyPost_ret (v := .tuple #[.slice a2 dl.length c2, .int .i64 (de : Int)]) (by simp [results, Tryz.results27, go_sem]) rfl ?_
          by_cases hde : de = 0
          · subst hde
            obtain ⟨r1, r2, r4, r3⟩ := HRK.out rfl
            exact ⟨B2.out, Or.inr ⟨2, dl, a2, c2, by omega, by omega, r1, r2, r4, r3, rfl, FldsS.kept (fun _ _ => rfl) (fun j hj => ⟨Nat.le_trans SZ.out hj.1, hj.2⟩) _ _ _ F2.out, C2.out⟩⟩
          · exact ⟨B2.out, Or.inl ⟨_, (de : Int), by omega, rfl, N3k.out (by first | exact hde | simpa using hde)⟩⟩
        · have HRk := HR.out 3 (by first | rfl | trivial) rfl (by omega) (by omega)
          have N3k := Lib.hid (N3.out)
          clear s1 s2 s4 HD1 HD2 HD4 HR N1 N2 N3 HL
          have HRK := Lib.hid HRk
          clear HRk
          generalize decSays (shpL 3) s.data.toList = D at *
          obtain ⟨dl, dn, de⟩ := D
          go_wp2_with fail
          refine (HD3.out _ B1.out).mono ?_
          rintro e w2 ⟨b2, a2, c2, rfl, f2, hc2⟩
          have B2 := Lib.hid (below_nx B1.out b2)
          have F2 := Lib.hid f2
          have C2 := Lib.hid hc2
          have SZ := Lib.hid B1.out.size
          clear b2 f2 hc2
          go_wp2_with fail
          refine bodyPost_ret (v := .tuple #[.slice a2 dl.length c2, .int .i64 (de : Int)]) (by simp [results, Tryz.results27, go_sem]) rfl ?_
          by_cases hde : de = 0
          · subst hde
            obtain ⟨r1, r2, r4, r3⟩ := HRK.out rfl
            exact ⟨B2.out, Or.inr ⟨3, dl, a2, c2, by omega, by omega, r1, r2, r4, r3, rfl, FldsS.kept (fun _ _ => rfl) (fun j hj => ⟨Nat.le_trans SZ.out hj.1, hj.2⟩) _ _ _ F2.out, C2.out⟩⟩
          · exact ⟨B2.out, Or.inl ⟨_, (de : Int), by omega, rfl, N3k.out (by first | exact hde | simpa using hde)⟩⟩
        · have HRk := HR.out 4 (by first | rfl | trivial) rfl (by omega) (by omega)
          have N3k := Lib.hid (N3.out)
          clear s1 s2 s3 HD1 HD2 HD3 HR N1 N2 N3 HL
          have HRK := Lib.hid HRk
          clear HRk
          generalize decSays (shpL 4) s.data.toList = D at *
          obtain ⟨dl, dn, de⟩ := D
          go_wp2_with fail
          refine (HD4.out _ B1.out).mono ?_
          rintro e w2 ⟨b2, a2, c2, rfl, f2, hc2⟩
          have B2 := Lib.hid (below_nx B1.out b2)
          have F2 := Lib.hid f2
          have C2 := Lib.hid hc2
          have SZ := Lib.hid B1.out.size
          clear b2 f2 hc2
          go_wp2_with fail
          refine bodyPost_ret (v := .tuple #[.slice a2 dl.length c2, .int .i64 (de : Int)]) (by simp [results, Tryz.results27, go_sem]) rfl ?_
          by_cases hde : de = 0
          · subst hde
            obtain ⟨r1, r2, r4, r3⟩ := HRK.out rfl
            exact ⟨B2.out, Or.inr ⟨4, dl, a2, c2, by omega, by omega, r1, r2, r4, r3, rfl, FldsS.kept (fun _ _ => rfl) (fun j hj => ⟨Nat.le_trans SZ.out hj.1, hj.2⟩) _ _ _ F2.out, C2.out⟩⟩
          · exact ⟨B2.out, Or.inl ⟨_, (de : Int), by omega, rfl, N3k.out (by first | exact hde | simpa using hde)⟩⟩
  · have HN := Lib.hid (N1.out hz)
    have t0 := bad_nat hz
    go_enter Tryz.func27, Tryz.ntmps27
    go_wp2_with fail
    refine HC.out.mono ?_
    rintro e w1 ⟨b1, a1, c1, rfl, f1, -⟩
    have B1 := Lib.hid b1
    clear b1 f1
    go_wp2_with fail
    refine bodyPost_ret (v := .tuple #[.slice none 0 0, .int .i64 (he0 : Int)]) (by simp [results, Tryz.results27, go_sem]) rfl ?_
    exact ⟨B1.out, Or.inl ⟨_, (he0 : Int), by omega, rfl, HN.out⟩⟩
end Go.Proofs.YtidfgjgbigedeaaGreatDoor
end
