/- The law WireJoins. -/
import Derived.Test.YtbepipnnhkaemaaDoorWpK
import Derived.Test.YtbepipnnhkaemaaDoorWrJ
import Derived.Test.YtbepipnnhkaemaaDoorWqJ
namespace Go.Proofs.YtbepipnnhkaemaaDoor
open Go.RowKit Go.Lib Go.Wq
set_option linter.unusedVariables false
set_option linter.unusedSimpArgs false
set_option maxRecDepth 100000

theorem infoFd : ∃ (i : TypeInfo) (z : Value), Tryd.prog.info? 55 = some i ∧ i.zero = some z ∧ i.size = 6 ∧ i.bytes = 72 ∧ z.cells.size = 6 := by
  refine ⟨_, _, rfl, rfl, ?_, ?_, ?_⟩ <;> kernel_rfl

/-- What the law asks of the two shapes joined. -/
theorem join_says {s0 s1 : List UInt8} {fs gs : List Fld} {its : List It} (h : Go.Wq.shape (s0 ++ s1) = some its) (h1 : (encSays s0 fs).2 = 0) (h2 : (encSays s1 gs).2 = 0) :
    encSays (s0 ++ s1) (fs ++ gs) = if 65536 < (encSays s0 fs).1.length + (encSays s1 gs).1.length then ([], 3) else ((encSays s0 fs).1 ++ (encSays s1 gs).1, 0) := by
  obtain ⟨i0, e1, e2, -⟩ := encSays_ok h1
  obtain ⟨i1, e1', e2', -⟩ := encSays_ok h2
  have hn : s0.length + s1.length ≤ 256 := by
    unfold Go.Wq.shape at h
    split at h
    · cases h
    · rename_i hh; rw [List.length_append] at hh; omega
  have hj := shape_join e1 e1' hn
  have he := enc_join i0 i1 fs gs _ _ e2 e2'
  generalize (encSays s0 fs).1 = a at *
  generalize (encSays s1 gs).1 = b at *
  unfold encSays
  simp only [hj, he, List.length_append]

theorem encSays_len (s : List UInt8) (fs : List Fld) : (encSays s fs).1.length ≤ 65536 := by
  by_cases h : (encSays s fs).2 = 0
  · obtain ⟨its, -, -, h3⟩ := encSays_ok h; exact h3
  · rw [encSays_zero h]; simp
theorem cell_lt {w : World} {p : Addr} {v : Value} (h : w.cell? p = some v) : p.block < w.heap.size := by
  rcases Nat.lt_or_ge p.block w.heap.size with g | g
  · exact g
  · have : w.heap[p.block]? = none := by simp [g]
    simp [World.cell?, this] at h
theorem flds_of_own {w : World} {base e B : Nat} {v : Value} {xs : List Value} {fs : List Fld} (ho : w.ownsRow base e 6 v fs.length xs) (hc : FCells w B xs fs) (hB : B ≤ w.heap.size) : ∃ (a : Option Addr) (c : Nat), v = .slice a fs.length c ∧ FldsIn w w.heap.size fs a fs.length := by
  have hl := ho.lt
  have hcs := @World.ownsRow.cells w base e 6 v fs.length xs ho
  rcases ho.2 with ⟨rfl, hn⟩ | ⟨g, cap, cur, rfl, hb, hg, hr⟩
  · have : fs = [] := List.eq_nil_of_length_eq_zero hn
    subst this
    exact ⟨none, 0, rfl, by simp [FldsIn]⟩
  · refine ⟨some ⟨g, 0, none⟩, cap, rfl, hc.flds hB g 0 (hl g rfl).2 (fun j u hj => ?_)⟩
    have h := hcs (g := g) rfl j u hj
    rwa [add_none] at h
set_option maxHeartbeats 2000000 in
theorem law_joins (s0 s1 : ByteArray) (fs : List Fld) (fa : Option Addr) (fc : Nat) (gs : List Fld) (ga : Option Addr) (gc : Nat) (W : World) (hs0 : s0.size ≤ reachBytes) (hs1 : s1.size ≤ reachBytes)
    (hfs : FldsIn W W.heap.size fs fa fs.length) (hfine : ∀ y ∈ fs, Fine y) (hr : fs.length * 72 ≤ reachBytes) (hna : fa = none → fc = 0) (hgs : FldsIn W W.heap.size gs ga gs.length) (hgine : ∀ y ∈ gs, Fine y) (hr2 : gs.length * 72 ≤ reachBytes) (hnb : ga = none → gc = 0) (hg : Handle W) :
    Calls Tryd.prog 9 #[.agg #[.string s0, .string s1], .slice fa fs.length fc, .slice ga gs.length gc] W fun e w' => e = .returned (.bool true) ∧ Below W.heap.size W w' := by
  obtain ⟨i0, z0, hi, hz0, hz1, hz2, hz3⟩ := infoFd
  have hR : reachBytes = 140737488351232 := rfl
  have hn : fs.length < 4611686018427387904 := by omega
  have hn2 : gs.length < 4611686018427387904 := by omega
  have C0 := Lib.hid (fun (w : World) (hb : Below W.heap.size W w) => refLarge2_any W.heap.size fs fa fc w hn (FldsIn.kept (B := W.heap.size) (fun k hk => hb.block k hk) _ _ _ hfs) (fun y hy => (hfine y hy).2.2))
  have C0' := Lib.hid (fun (w : World) (hb : Below W.heap.size W w) => refLarge2_any W.heap.size gs ga gc w hn2 (FldsIn.kept (B := W.heap.size) (fun k hk => hb.block k hk) _ _ _ hgs) (fun y hy => (hgine y hy).2.2))
  have HG := Lib.hid hg
  have AW : Hid (∀ w, Below W.heap.size W w → Calls Tryd.prog 14 #[] w fun e w' => e = .returned (.bool true) ∧ Below W.heap.size W w') := Lib.hid (fun w hb => (awake_any w (HG.out.below hb)).mono (fun e w' h => ⟨h.1, hb.trans (h.2.mono hb.size)⟩))
  obtain ⟨w1, hw1⟩ : ∃ w1, w1 = W.alloc (.cells #[.string s0, .string s1] 39) := ⟨_, rfl⟩
  have hb1 : Below W.heap.size W w1 := by rw [hw1]; exact (Below.refl _ W).alloc (Nat.le_refl _) _
  have k0 : w1.cell? ⟨W.heap.size, 0, none⟩ = some (.string s0) := by rw [hw1]; simp [go_sem]
  have k1 : w1.cell? ⟨W.heap.size, 1, none⟩ = some (.string s1) := by rw [hw1]; simp [go_sem]
  have HB1 := Lib.hid hb1
  have C1 := Lib.hid (fun (w : World) (hb : Below W.heap.size W w) => wireEncode_any s0 (by omega) fs fa fc w (hg.below hb) ((FldsIn.kept (B := W.heap.size) (fun k hk => hb.block k hk) _ _ _ hfs).kept_up hb.size) hfine hn)
  have C2 := Lib.hid (fun (w : World) (hb : Below W.heap.size W w) => wireEncode_any s1 (by omega) gs ga gc w (hg.below hb) ((FldsIn.kept (B := W.heap.size) (fun k hk => hb.block k hk) _ _ _ hgs).kept_up hb.size) hgine hn2)
  have HF := Lib.hid hfs
  have HGS := Lib.hid hgs
  have HFN := Lib.hid hfine
  have HGN := Lib.hid hgine
  have hap : (s0 ++ s1).data.toList = s0.data.toList ++ s1.data.toList := by simp
  have HAP := Lib.hid hap
  clear hfs hgs hfine hgine hg hb1 hap
  go_enter Tryd.func9, Tryd.ntmps9
  go_wp2_with fail
  rw [← hw1]
  refine (C0.out w1 HB1.out).mono ?_
  rintro e w0 ⟨⟨lg, rfl, hlg⟩, rfl⟩
  cases lg with
  | true =>
    clear hw1
    go_wp2_with fail
    refine (AW.out w1 HB1.out).mono ?_
    rintro e w5 ⟨rfl, b5⟩
    go_wp2_with fail
    go_ret
    exact ⟨rfl, b5⟩
  | false =>
    have hlf := hlg rfl
    clear hlg hw1
    go_wp2_with fail
    refine (C0'.out w1 HB1.out).mono ?_
    rintro e w0 ⟨⟨lg, rfl, hlg⟩, rfl⟩
    cases lg with
    | true =>
      go_wp2_with fail
      refine (AW.out w1 HB1.out).mono ?_
      rintro e w5 ⟨rfl, b5⟩
      go_wp2_with fail
      go_ret
      exact ⟨rfl, b5⟩
    | false =>
      have hlf2 := hlg rfl
      clear hlg
      by_cases hA : 256 < s0.size
      · have hA' : (256 : Int) < (s0.size : Int) := by omega
        go_wp2_with fail
        refine (AW.out w1 HB1.out).mono ?_
        rintro e w5 ⟨rfl, b5⟩
        go_wp2_with fail
        go_ret
        exact ⟨rfl, b5⟩
      · have hA' : ¬ (256 : Int) < (s0.size : Int) := by omega
        by_cases hB : 256 < s1.size
        · have hB' : (256 : Int) < (s1.size : Int) := by omega
          go_wp2_with fail
          refine (AW.out w1 HB1.out).mono ?_
          rintro e w5 ⟨rfl, b5⟩
          go_wp2_with fail
          go_ret
          exact ⟨rfl, b5⟩
        · have hB' : ¬ (256 : Int) < (s1.size : Int) := by omega
          have hsum : (s0 ++ s1).size ≤ 140737488351232 := by rw [ByteArray.size_append]; omega
          have C3 := Lib.hid (refCheckShape_any (s0 ++ s1) hsum w1)
          have C4 := Lib.hid (fun (w : World) (hb : Below W.heap.size W w) (hs : List Fld) (ha : Option Addr) (hc : Nat) (h1 : FldsIn w w.heap.size hs ha hs.length) (h2 : ∀ y ∈ hs, Fine y) (h3 : hs.length < 4611686018427387904) => wireEncode_any (s0 ++ s1) (by omega) hs ha hc w (HG.out.below hb) h1 h2 h3)
          cases hx : Go.Wq.shape (s0 ++ s1).data.toList with
          | none =>
            rw [hx] at C3
            simp only [Option.isSome_none, Bool.false_eq_true, if_false] at C3
            clear hx hsum
            go_wp2_with fail
            refine C3.out.mono ?_
            rintro e w2 ⟨rfl, b2⟩
            have B2 := Lib.hid (HB1.out.trans (b2.mono HB1.out.size))
            clear b2
            go_wp2_with fail
            refine (AW.out w2 B2.out).mono ?_
            rintro e w5 ⟨rfl, b5⟩
            go_wp2_with fail
            go_ret
            exact ⟨rfl, b5⟩
          | some its =>
            rw [hx] at C3
            simp only [Option.isSome_some, if_true] at C3
            have HX : Hid (Go.Wq.shape (s0.data.toList ++ s1.data.toList) = some its) := Lib.hid (by rw [← HAP.out]; exact hx)
            have hs1z := HB1.out.size
            clear hx hsum
            go_wp2_with fail
            refine C3.out.mono ?_
            rintro e w2 ⟨rfl, b2⟩
            have B2 := Lib.hid (HB1.out.trans (b2.mono HB1.out.size))
            have z0 : w2.cell? ⟨W.heap.size, 0, none⟩ = some (.string s0) := (b2.cell (p := ⟨W.heap.size, 0, none⟩) (cell_lt k0)).trans k0
            have z1 : w2.cell? ⟨W.heap.size, 1, none⟩ = some (.string s1) := (b2.cell (p := ⟨W.heap.size, 1, none⟩) (cell_lt k1)).trans k1
            clear b2 k0 k1
            go_wp2_with fail
            refine (C1.out w2 B2.out).mono ?_
            rintro e w3 ⟨rfl, b3⟩
            have B3 := Lib.hid (B2.out.trans (b3.mono B2.out.size))
            have y1 : w3.cell? ⟨W.heap.size, 1, none⟩ = some (.string s1) := (b3.cell (p := ⟨W.heap.size, 1, none⟩) (cell_lt z1)).trans z1
            clear b3 z0 z1
            go_wp2_with fail
            refine (C2.out w3 B3.out).mono ?_
            rintro e w4 ⟨rfl, b4⟩
            have B4 := Lib.hid (B3.out.trans (b4.mono B3.out.size))
            clear b4 y1
            have HJ : Hid ((encSays s0.data.toList fs).2 = 0 → (encSays s1.data.toList gs).2 = 0 → encSays (s0 ++ s1).data.toList (fs ++ gs) = if 65536 < (encSays s0.data.toList fs).1.length + (encSays s1.data.toList gs).1.length then ([], 3) else ((encSays s0.data.toList fs).1 ++ (encSays s1.data.toList gs).1, 0)) := Lib.hid (fun h1 h2 => by rw [HAP.out]; exact join_says HX.out h1 h2)
            have HLA : Hid ((encSays s0.data.toList fs).1.length ≤ 65536 ∧ (encSays s1.data.toList gs).1.length ≤ 65536) := Lib.hid ⟨encSays_len _ _, encSays_len _ _⟩
            generalize (encSays s0.data.toList fs).2 = c1 at *
            generalize (encSays s1.data.toList gs).2 = c2 at *
            generalize (encSays s0.data.toList fs).1 = x1 at *
            generalize (encSays s1.data.toList gs).1 = x2 at *
            by_cases h1 : c1 = 0
            · subst h1
              by_cases h2 : c2 = 0
              · subst h2
                have HJ2 := Lib.hid (HJ.out rfl rfl)
                obtain ⟨xs, hxs, hxat⟩ := flds_cells (FldsIn.kept (B := W.heap.size) (fun k hk => B4.out.block k hk) _ _ _ HF.out)
                obtain ⟨ys, hys, hyat⟩ := flds_cells (FldsIn.kept (B := W.heap.size) (fun k hk => B4.out.block k hk) _ _ _ HGS.out)
                have HXS := Lib.hid hxs
                have HYS := Lib.hid hys
                have HXA := Lib.hid hxat
                have HYA := Lib.hid hyat
                have HXL := Lib.hid hxs.len
                have HYL := Lib.hid hys.len
                have H63 : Hid (0 + fs.length ≤ maxLen ∧ 0 + fs.length + gs.length ≤ maxLen ∧ (0 + fs.length) * 72 ≤ 140737488355328 ∧ (0 + fs.length + gs.length) * 72 ≤ 140737488355328) := Lib.hid ⟨by unfold maxLen; omega, by unfold maxLen; omega, by omega, by omega⟩
                have HNA := Lib.hid hna
                have HNB := Lib.hid hnb
                clear hxs hys hxat hyat hna hnb
                have hle4 : w4.heap.size ≤ w4.heap.size := Nat.le_refl _
                have hYA5 : Hid (∀ w5 : World, w4.grownBy w5 (Value.slice none 0 0).ownBlock → 0 < gs.length → ∃ b off, ga = some ⟨b, off, none⟩ ∧ ∀ j u, ys[j]? = some u → w5.cell? ⟨b, off + j, none⟩ = some u) := Lib.hid (fun w5 hg5 hpos => by
                  obtain ⟨b, off, e1, e2⟩ := HYA.out hpos
                  exact ⟨b, off, e1, fun j u hj => by
                    have h := e2 j u hj
                    rw [← h]
                    exact World.cell?_of_block (hg5.block b (cell_lt (p := ⟨b, off + j, none⟩) h) (by simp [Value.ownBlock]))⟩)
                have HFIN : Hid (∀ (w5 w6 : World) (v5 v6 : Value), w4.grownBy w5 (Value.slice none 0 0).ownBlock → w5.ownsRow w4.heap.size 55 6 v5 (0 + fs.length) ([] ++ xs) → w5.grownBy w6 v5.ownBlock → w6.ownsRow w4.heap.size 55 6 v6 (0 + fs.length + gs.length) ([] ++ xs ++ ys) →
                    Below W.heap.size W w6 ∧ ∃ (a : Option Addr) (c : Nat) (N : Nat), v6 = .slice a N c ∧ (fs ++ gs).length = N ∧ FldsIn w6 w6.heap.size (fs ++ gs) a (fs ++ gs).length) := Lib.hid (fun w5 w6 v5 v6 h1 h2 h3 h4 => by
                  have hb5 : Below W.heap.size W w5 := B4.out.grown h1 B4.out.size (fun k hk => by cases hk)
                  have hb6 : Below W.heap.size W w6 := hb5.grown h3 hb5.size (fun k hk => by have := (h2.lt k hk).1; have := B4.out.size; omega)
                  refine ⟨hb6, ?_⟩
                  have hcs : FCells w6 W.heap.size (xs ++ ys) (fs ++ gs) := (HXS.out.append HYS.out).kept (fun k hk => by rw [hb6.block k hk, B4.out.block k hk])
                  rw [List.nil_append] at h4
                  rw [Nat.zero_add, ← List.length_append] at h4
                  obtain ⟨a, c, e1, e2⟩ := flds_of_own h4 hcs hb6.size
                  exact ⟨a, c, _, e1, rfl, e2⟩)
                go_wp2_with (first | (at_builtin; refine wpList_append_flds _ rfl _ _ 28 rfl w4.heap.size 55 i0 z0 Tryd.underlying28 hi hz0 hz1 hz2 hz3 (.slice none 0 0) 0 [] rfl (World.ownsRow_nil _ _ _ _) fa fs.length fc xs rfl HXL.out HXS.out.one HXA.out HNA.out H63.out.1 H63.out.2.2.1 hle4 ?_; intro v5 w5 ho5 hg5; have HO5 := Lib.hid ho5; have HG5 := Lib.hid hg5; have hle5 : w4.heap.size ≤ w5.heap.size := hg5.size; clear ho5 hg5) | (at_builtin; refine wpList_append_flds _ rfl _ _ 28 rfl w4.heap.size 55 i0 z0 Tryd.underlying28 hi hz0 hz1 hz2 hz3 v5 (0 + fs.length) ([] ++ xs) rfl HO5.out ga gs.length gc ys rfl HYL.out HYS.out.one (hYA5.out _ HG5.out) HNB.out H63.out.2.1 H63.out.2.2.2 hle5 ?_; intro v6 w6 ho6 hg6; obtain ⟨hb6, a6, c6, N6, hv6, hN6, hf6⟩ := HFIN.out w5 w6 v5 v6 HG5.out HO5.out hg6 ho6; have HB6 := Lib.hid hb6; have HF6 := Lib.hid hf6; have HN6 := Lib.hid hN6; subst hv6; clear ho6 hg6 hb6 hf6 hN6))
                have HFG : Hid (∀ y ∈ fs ++ gs, Fine y) := Lib.hid (fun y hy => by
                  rcases List.mem_append.1 hy with h | h
                  · exact HFN.out y h
                  · exact HGN.out y h)
                have HC := C4.out w6 HB6.out (fs ++ gs) a6 c6 HF6.out HFG.out (by rw [List.length_append]; omega)
                rw [HJ2.out, HN6.out] at HC
                have hx1 := HLA.out.1
                have hx2 := HLA.out.2
                by_cases hbig : 65536 < x1.length + x2.length
                · rw [if_pos hbig] at HC
                  have hbi : (65536 : Int) < (x1.length : Int) + (x2.length : Int) := by omega
                  refine HC.mono ?_
                  rintro e w7 ⟨rfl, b7⟩
                  have B7 := Lib.hid (HB6.out.trans (b7.mono HB6.out.size))
                  clear b7 HC
                  go_wp2_with fail
                  refine (AW.out w7 B7.out).mono ?_
                  rintro e w8 ⟨rfl, b8⟩
                  go_wp2_with fail
                  go_ret
                  exact ⟨rfl, b8⟩
                · rw [if_neg hbig] at HC
                  have hbi : ¬ (65536 : Int) < (x1.length : Int) + (x2.length : Int) := by omega
                  have hcat : (⟨x1.toArray⟩ ++ ⟨x2.toArray⟩ : ByteArray) = ⟨(x1 ++ x2).toArray⟩ := ByteArray.ext (by simp)
                  refine HC.mono ?_
                  rintro e w7 ⟨rfl, b7⟩
                  have B7 := Lib.hid (HB6.out.trans (b7.mono HB6.out.size))
                  clear b7 HC
                  go_wp2_with fail
                  refine (AW.out w7 B7.out).mono ?_
                  rintro e w8 ⟨rfl, b8⟩
                  go_wp2_with fail
                  go_ret
                  exact ⟨rfl, b8⟩
              · have d2 : (c2 != 0) = true := by simp [h2]
                go_wp2_with fail
                refine (AW.out w4 B4.out).mono ?_
                rintro e w5 ⟨rfl, b5⟩
                go_wp2_with fail
                go_ret
                exact ⟨rfl, b5⟩
            · have d1 : (c1 != 0) = true := by simp [h1]
              go_wp2_with fail
              refine (AW.out w4 B4.out).mono ?_
              rintro e w5 ⟨rfl, b5⟩
              go_wp2_with fail
              go_ret
              exact ⟨rfl, b5⟩
end Go.Proofs.YtbepipnnhkaemaaDoor
