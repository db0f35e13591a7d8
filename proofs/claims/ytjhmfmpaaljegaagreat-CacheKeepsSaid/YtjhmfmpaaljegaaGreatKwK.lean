/- Caches, the document: a list behind news. -/
import Derived.Test.YtjhmfmpaaljegaaGreatKwI
namespace Go.Proofs.YtjhmfmpaaljegaaGreat
open Go.RowKit Go.Lib Go.Ow Go.Cw Go.Fq Go.Mq Go.Kq Go.Kw
set_option linter.unusedVariables false
set_option linter.unusedSimpArgs false
set_option maxRecDepth 100000

theorem fin_leq {n : Nw} (h : newsB n = true) (hf : n.Fit) : (FloatKind.f64.format.order n.dist 9218868437227405311 == some .lt || FloatKind.f64.format.order n.dist 9218868437227405311 == some .eq) = !(infP n.dist) := by
  obtain ⟨a, -, -⟩ := far_num (news_bd h).2.2 hf.x
  unfold infP
  rw [od_num a (show nanB 9218868437227405311 = false by decide +kernel)]
  generalize compare (ik n.dist) (ik 9218868437227405311) = c
  cases c <;> rfl
/-- What the merge has on its way: at l[i], ns[k]. -/
structure Md (w : World) (l ns : List Nw) (L : List Nw) (k : Nat) (O : List Nw) (a : Option Addr) (c : Nat) (n : Nat) (wr : World) : Prop where
  kle : k ≤ ns.length
  tot : O ++ mD L (ns.drop k) = mD l ns
  row : ∃ r, w.heap.size ≤ r ∧ Nr wr r (.slice a O.length c) O
  len : O.length ≤ n + k
  bel : Below w.heap.size w wr
theorem drop_cons {l : List Nw} {i : Nat} (h : i < l.length) : l.drop i = l[i] :: l.drop (i + 1) := List.drop_eq_getElem_cons h
theorem rng_of {w : World} {l : List Nw} {b o i : Nat} {B : Nat} (hat : ∀ k (h : k < l.length), NwAt w b (o + k * 5) l[k]) (hi : i < l.length) (hb : b < w.heap.size) : ∀ V, Below w.heap.size w V → V.rangeAt b (o + i * 5) (nC l[i]) := fun V hV => by
  have h1 := NwS.range (l := [l[i]]) (b := b) (o := o + i * 5) (w := w) (fun j hj => by
    have : j = 0 := by simp at hj; omega
    subst this
    simpa using hat i hi)
  exact below_keep hV hb (by simpa [nRow] using h1)
set_option maxHeartbeats 16000000 in
theorem rMerge_any (l ns : List Nw) (a : Option Addr) (c : Nat) (na : Option Addr) (nc : Nat) (w : World) (hl : NewsIn w w.heap.size l a) (hn : NewsIn w w.heap.size ns na) (hlb : ∀ x ∈ l, newsB x = true) (hnb : ∀ x ∈ ns, newsB x = true ∧ x.Fit) (hll : l.length ≤ 4294967294) (hnl : ns.length ≤ 4294967294) :
    Calls Tryz.prog 48 #[.slice a l.length c, .slice na ns.length nc] w fun e w' => NwRet w (mD l ns) id e w' := by
  have HL := Lib.hid hl
  have HN := Lib.hid hn
  have HLB := Lib.hid hlb
  have HNB := Lib.hid hnb
  have HLE := Lib.hid (And.intro hll hnl)
  clear hl hn hlb hnb hll hnl
  go_enter Tryz.func48, Tryz.ntmps48
  go_wp2_with fail
  go_loopw [5, 6, 7] (fun ov kv iv wr => ∃ (i k : Nat) (O : List Nw) (a : Option Addr) (c : Nat), ov = .slice a O.length c ∧ kv = .int .i64 (k : Int) ∧ iv = .int .i64 (i : Int) ∧ i ≤ l.length ∧ Md w l ns (l.drop i) k O a c i wr) (fun _ _ iv _ => l.length - (RowKit.intOf iv).toNat)
  case atStart => exact ⟨0, 0, [], _, 0, rfl, rfl, rfl, Nat.zero_le _, Nat.zero_le _, rfl, ⟨w.heap.size, Nat.le_refl _, Or.inl ⟨rfl, rfl, _, rfl⟩⟩, by simp, gAl _ _⟩
  case round =>
    obtain ⟨i, k0, O0, a0, c0, rfl, rfl, rfl, hi, hmd0⟩ := hrel
    have HM0 := Lib.hid hmd0
    clear hmd0
    by_cases hlt : i < l.length
    · have hlti : (i : Int) < (l.length : Int) := by omega
      have hi0 : (0 : Int) ≤ (i : Int) := by omega
      have hiw : IntKind.i64.wrap ((i : Int) + 1) = (i : Int) + 1 := by rw [IntKind.wrap_i64]; have := HLE.out; omega
      obtain ⟨bl, ol, rfl, hbl, hatl⟩ := HL.out.at i hlt
      have HKX := Lib.hid (rng_of (B := 0) hatl hlt hbl)
      have HDL := Lib.hid (drop_cons hlt)
      have hxb := HLB.out l[i] (List.getElem_mem _)
      clear hatl
      generalize l[i] = x at *
      have HXB := Lib.hid hxb
      clear hxb
      go_wp2_with fail
      go_loopw [5, 6] (fun ov kv wi => ∃ (k : Nat) (O : List Nw) (a : Option Addr) (c : Nat), ov = .slice a O.length c ∧ kv = .int .i64 (k : Int) ∧ Md w l ns (x :: l.drop (i + 1)) k O a c i wi) (fun _ kv _ => ns.length - (RowKit.intOf kv).toNat)
      case atStart => exact ⟨k0, O0, a0, c0, rfl, rfl, by have := HM0.out; rw [HDL.out] at this; exact this⟩
      case round =>
        obtain ⟨k, O, a3, c3, rfl, rfl, hmd⟩ := hrel
        clear HM0
        have HM := Lib.hid hmd
        have hkl := hmd.kle
        have hbi := hmd.bel
        clear hmd
        by_cases hk : k < ns.length
        · have hki : (k : Int) < (ns.length : Int) := by omega
          have hk0i : (0 : Int) ≤ (k : Int) := by omega
          have hkw : IntKind.i64.wrap ((k : Int) + 1) = (k : Int) + 1 := by rw [IntKind.wrap_i64]; have := HLE.out; omega
          obtain ⟨bn, on, rfl, hbn, hatn⟩ := HN.out.at k hk
          have HKN := Lib.hid (rng_of (B := 0) hatn hk hbn)
          have HDN := Lib.hid (drop_cons hk)
          obtain ⟨hnb, hnf⟩ := HNB.out ns[k] (List.getElem_mem _)
          clear hatn
          generalize ns[k] = n at *
          have hky := ahead_ky hnb HXB.out
          have hky2 := ahead_ky HXB.out hnb
          have HTT := Lib.hid HM.out.tot
          have HROWW0 := Lib.hid HM.out.row
          have HOL := Lib.hid HM.out.len
          cases ha : aheadB n x with
          | true =>
            have hmd : mD (x :: l.drop (i + 1)) (ns.drop k) = fins n ++ mD (x :: l.drop (i + 1)) (ns.drop (k + 1)) := by rw [HDN.out, mD, if_pos (by rw [ha] at hky; simpa using hky.symm)]
            have HBEF := Lib.hid (fun W => rBefore_any n.dest n.kind n.dist n.radius n.home x.dest x.kind x.dist x.radius x.home W)
            have eah : (if n.kind == x.kind then decide (n.dest < x.dest) else decide (n.kind < x.kind)) = aheadB n x := rfl
            rw [eah, ha] at HBEF
            clear eah
            clear hky hky2 ha
            go_upto_region 5 with (fail)
            refine wp_region_held_drew (S := fun V => Below w.heap.size w V) (by kernel_rfl) hbi.drew (fun hs0 => ?_)
            refine tk 0 (by assumption) rfl (by kernel_rfl) (fun _ _ _ h => h) (fun V hV => by go_simp; try with_reducible rfl) ?_
            try simp only [Act.put, sqA, sqB, sqC, sqD, sqE, sqF]
            refine tk 1 (by assumption) rfl (by kernel_rfl) (fun _ _ _ h => h) (fun V hV => by go_simp; try with_reducible rfl) ?_
            try simp only [Act.put, sqA, sqB, sqC, sqD, sqE, sqF]
            refine tk 2 (by assumption) rfl (by kernel_rfl) (fun _ _ _ h => h) (fun V hV => by go_simp; try with_reducible rfl) ?_
            try simp only [Act.put, sqA, sqB, sqC, sqD, sqE, sqF]
            refine tk 3 (by assumption) rfl (by kernel_rfl) (fun _ _ _ h => h) (fun V hV => by go_simp; try with_reducible rfl) ?_
            try simp only [Act.put, sqA, sqB, sqC, sqD, sqE, sqF]
            refine tk 4 (by assumption) rfl (by kernel_rfl) (fun _ _ _ h => h) (fun V hV => by go_simp; try with_reducible rfl) ?_
            try simp only [Act.put, sqA, sqB, sqC, sqD, sqE, sqF]
            refine tk 5 (by assumption) rfl (by kernel_rfl) (fun _ _ _ h => h) (fun V hV => by go_simp; try with_reducible rfl) ?_
            try simp only [Act.put, sqA, sqB, sqC, sqD, sqE, sqF]
            refine tk 6 (by assumption) rfl (by kernel_rfl) (fun _ _ _ h => h) (fun V hV => by go_simp; try with_reducible rfl) ?_
            try simp only [Act.put, sqA, sqB, sqC, sqD, sqE, sqF]
            refine tk 7 (by assumption) rfl (by kernel_rfl) (fun _ _ _ h => h) (fun V hV => by go_simp; try with_reducible rfl) ?_
            try simp only [Act.put, sqA, sqB, sqC, sqD, sqE, sqF]
            refine tk 8 (by assumption) rfl (by kernel_rfl) (fun _ _ _ h => h) (tk_load 61 (.tmp 22) rfl bn (on + k * 5) rfl (nC n) _ (fun V hV => HKN.out V hV) Tryz.underlying61 (by rfl) (by kernel_rfl)) ?_
            try simp only [Act.put, sqA, sqB, sqC, sqD, sqE, sqF]
            refine tk 9 (by assumption) rfl (by kernel_rfl) (fun _ _ _ h => h) (fun V hV => by go_simp; try with_reducible rfl) ?_
            try simp only [Act.put, sqA, sqB, sqC, sqD, sqE, sqF]
            refine tk 10 (by assumption) rfl (by kernel_rfl) (fun _ _ _ h => h) (fun V hV => by go_simp; try with_reducible rfl) ?_
            try simp only [Act.put, sqA, sqB, sqC, sqD, sqE, sqF]
            refine tk 11 (by assumption) rfl (by kernel_rfl) (fun _ _ _ h => h) (fun V hV => by go_simp; try with_reducible rfl) ?_
            try simp only [Act.put, sqA, sqB, sqC, sqD, sqE, sqF]
            refine tk 12 (by assumption) rfl (by kernel_rfl) (fun _ _ _ h => h) (tk_load 61 (.tmp 26) rfl bl (ol + i * 5) rfl (nC x) _ (fun V hV => HKX.out V hV) Tryz.underlying61 (by rfl) (by kernel_rfl)) ?_
            try simp only [Act.put, sqA, sqB, sqC, sqD, sqE, sqF]
            refine wpAnyH_ready (rs := [13]) (by kernel_rfl) (by simp) ?_
            refine AllReadyH.cons (o := _) rfl (fun K hK => ?_) AllReadyH.nil
            go_simp
            try rw [if_pos (by omega)]
            refine (HBEF.out _).mono ?_
            rintro e2 V9 ⟨rfl, hb9⟩
            go_wp2_with fail
            refine hK.out _ _ (gNx hs0 hb9) (fun hs0 => ?_)
            clear hK K
            try simp only [Act.put, sqA, sqB, sqC, sqD, sqE, sqF]
            refine tk 14 (by assumption) rfl (by kernel_rfl) (fun _ _ _ h => h) (fun V hV => by go_simp; try with_reducible rfl) ?_
            try simp only [Act.put, sqA, sqB, sqC, sqD, sqE, sqF]
            refine wpAnyH_done (by kernel_rfl) ?_ _
            have HK9 : Hid (Below wr.heap.size wr V9) := Lib.hid ((Below.refl _ wr).drew.trans hb9)
            clear hb9
            have HROWW : Hid (∃ r, w.heap.size ≤ r ∧ Nr V9 r (.slice a3 O.length c3) O) := Lib.hid (by obtain ⟨r, h1, h2⟩ := HROWW0.out; exact ⟨r, h1, h2.below HK9.out⟩)
            clear HROWW0 HBEF
            cases hg : infP n.dist with
            | true =>
              have hle : (FloatKind.f64.format.order n.dist 9218868437227405311 == some .lt || FloatKind.f64.format.order n.dist 9218868437227405311 == some .eq) = false := by rw [fin_leq hnb hnf, hg]; rfl
              have HTOT : Hid (O ++ mD (x :: l.drop (i + 1)) (ns.drop (k + 1)) = mD l ns) := Lib.hid (by have := HTT.out; rw [hmd, show fins n = [] from by unfold fins; rw [hg]; rfl] at this; simpa using this)
              clear hg hmd
              have q0 : V9.cell? ⟨bn, on + k * 5, none⟩ = some (.int .i64 n.dest) := HKN.out V9 hs0 0 _ rfl
              have q1 : V9.cell? ⟨bn, on + k * 5 + 1, none⟩ = some (.int .i64 n.kind) := HKN.out V9 hs0 1 _ rfl
              have q2 : V9.cell? ⟨bn, on + k * 5 + 2, none⟩ = some (.float .f64 n.dist) := HKN.out V9 hs0 2 _ rfl
              have q3 : V9.cell? ⟨bn, on + k * 5 + 3, none⟩ = some (.float .f64 n.radius) := HKN.out V9 hs0 3 _ rfl
              have q4 : V9.cell? ⟨bn, on + k * 5 + 4, none⟩ = some (.int .i64 n.home) := HKN.out V9 hs0 4 _ rfl
              go_wp2_with fail
              refine ⟨⟨k + 1, O, a3, c3, rfl, congrArg (Value.int .i64) (by omega), by omega, HTOT.out, HROWW.out, by have := HOL.out; omega, by assumption⟩, by show ns.length - ((k : Int) + 1).toNat < ns.length - (k : Int).toNat; omega⟩
            | false =>
              have hle : (FloatKind.f64.format.order n.dist 9218868437227405311 == some .lt || FloatKind.f64.format.order n.dist 9218868437227405311 == some .eq) = true := by rw [fin_leq hnb hnf, hg]; rfl
              have HTOT : Hid ((O ++ [n]) ++ mD (x :: l.drop (i + 1)) (ns.drop (k + 1)) = mD l ns) := Lib.hid (by have := HTT.out; rw [hmd, show fins n = [n] from by unfold fins; rw [hg]; rfl] at this; rw [← this]; simp)
              clear hg hmd
              have q0 : V9.cell? ⟨bn, on + k * 5, none⟩ = some (.int .i64 n.dest) := HKN.out V9 hs0 0 _ rfl
              have q1 : V9.cell? ⟨bn, on + k * 5 + 1, none⟩ = some (.int .i64 n.kind) := HKN.out V9 hs0 1 _ rfl
              have q2 : V9.cell? ⟨bn, on + k * 5 + 2, none⟩ = some (.float .f64 n.dist) := HKN.out V9 hs0 2 _ rfl
              have q3 : V9.cell? ⟨bn, on + k * 5 + 3, none⟩ = some (.float .f64 n.radius) := HKN.out V9 hs0 3 _ rfl
              have q4 : V9.cell? ⟨bn, on + k * 5 + 4, none⟩ = some (.int .i64 n.home) := HKN.out V9 hs0 4 _ rfl
              have hol2 : (O ++ [n]).length = O.length + 1 := by simp
              have HOL2 := Lib.hid hol2
              clear hol2
              obtain ⟨r5, hr5, hrow5⟩ := HROWW.out
              obtain ⟨W8, hW8⟩ : ∃ W8, W8 = V9.alloc (.cells #[.int .i64 n.dest, .int .i64 n.kind, .float .f64 n.dist, .float .f64 n.radius, .int .i64 n.home] 61) := ⟨_, rfl⟩
              obtain ⟨a', c', W9, r9, hrun, hrow9, hr9, hb9⟩ := nw_app n hrow5 (by have := HLE.out; have := HOL.out; omega) hr5 hs0 hs0.size W8 hW8
              rw [hW8] at hrun
              have HRUN := Lib.hid hrun
              have HROW9 := Lib.hid (And.intro hr9 (And.intro hrow9 hb9))
              clear hrun hrow9 hr9 hb9 hW8 hr5 hrow5
              generalize hO2 : O ++ [n] = O2 at *
              have HO2 := Lib.hid hO2
              clear hO2
              go_wp2_with (at_builtin; refine Lib.wpList_append_run _ rfl _ _ _ _ rfl _ _ rfl rfl _ _ (HRUN.out _) ?_)
              refine ⟨⟨k + 1, O2, a', c', rfl, congrArg (Value.int .i64) (by omega), by omega, HTOT.out, ⟨r9, HROW9.out.1, HROW9.out.2.1⟩, by have h1 := HOL.out; have h2 := HOL2.out; omega, HROW9.out.2.2⟩, by show ns.length - ((k : Int) + 1).toNat < ns.length - (k : Int).toNat; omega⟩
          | false =>
            have HK1 : Hid (¬ ky n < ky x) := Lib.hid (by rw [ha] at hky; simpa using hky.symm)
            have HBEF := Lib.hid (fun W => rBefore_any n.dest n.kind n.dist n.radius n.home x.dest x.kind x.dist x.radius x.home W)
            have eah : (if n.kind == x.kind then decide (n.dest < x.dest) else decide (n.kind < x.kind)) = aheadB n x := rfl
            rw [eah, ha] at HBEF
            clear eah
            clear hky ha
            go_upto_region 5 with (fail)
            refine wp_region_held_drew (S := fun V => Below w.heap.size w V) (by kernel_rfl) hbi.drew (fun hs0 => ?_)
            refine tk 0 (by assumption) rfl (by kernel_rfl) (fun _ _ _ h => h) (fun V hV => by go_simp; try with_reducible rfl) ?_
            try simp only [Act.put, sqA, sqB, sqC, sqD, sqE, sqF]
            refine tk 1 (by assumption) rfl (by kernel_rfl) (fun _ _ _ h => h) (fun V hV => by go_simp; try with_reducible rfl) ?_
            try simp only [Act.put, sqA, sqB, sqC, sqD, sqE, sqF]
            refine tk 2 (by assumption) rfl (by kernel_rfl) (fun _ _ _ h => h) (fun V hV => by go_simp; try with_reducible rfl) ?_
            try simp only [Act.put, sqA, sqB, sqC, sqD, sqE, sqF]
            refine tk 3 (by assumption) rfl (by kernel_rfl) (fun _ _ _ h => h) (fun V hV => by go_simp; try with_reducible rfl) ?_
            try simp only [Act.put, sqA, sqB, sqC, sqD, sqE, sqF]
            refine tk 4 (by assumption) rfl (by kernel_rfl) (fun _ _ _ h => h) (fun V hV => by go_simp; try with_reducible rfl) ?_
            try simp only [Act.put, sqA, sqB, sqC, sqD, sqE, sqF]
            refine tk 5 (by assumption) rfl (by kernel_rfl) (fun _ _ _ h => h) (fun V hV => by go_simp; try with_reducible rfl) ?_
            try simp only [Act.put, sqA, sqB, sqC, sqD, sqE, sqF]
            refine tk 6 (by assumption) rfl (by kernel_rfl) (fun _ _ _ h => h) (fun V hV => by go_simp; try with_reducible rfl) ?_
            try simp only [Act.put, sqA, sqB, sqC, sqD, sqE, sqF]
            refine tk 7 (by assumption) rfl (by kernel_rfl) (fun _ _ _ h => h) (fun V hV => by go_simp; try with_reducible rfl) ?_
            try simp only [Act.put, sqA, sqB, sqC, sqD, sqE, sqF]
            refine tk 8 (by assumption) rfl (by kernel_rfl) (fun _ _ _ h => h) (tk_load 61 (.tmp 22) rfl bn (on + k * 5) rfl (nC n) _ (fun V hV => HKN.out V hV) Tryz.underlying61 (by rfl) (by kernel_rfl)) ?_
            try simp only [Act.put, sqA, sqB, sqC, sqD, sqE, sqF]
            refine tk 9 (by assumption) rfl (by kernel_rfl) (fun _ _ _ h => h) (fun V hV => by go_simp; try with_reducible rfl) ?_
            try simp only [Act.put, sqA, sqB, sqC, sqD, sqE, sqF]
            refine tk 10 (by assumption) rfl (by kernel_rfl) (fun _ _ _ h => h) (fun V hV => by go_simp; try with_reducible rfl) ?_
            try simp only [Act.put, sqA, sqB, sqC, sqD, sqE, sqF]
            refine tk 11 (by assumption) rfl (by kernel_rfl) (fun _ _ _ h => h) (fun V hV => by go_simp; try with_reducible rfl) ?_
            try simp only [Act.put, sqA, sqB, sqC, sqD, sqE, sqF]
            refine tk 12 (by assumption) rfl (by kernel_rfl) (fun _ _ _ h => h) (tk_load 61 (.tmp 26) rfl bl (ol + i * 5) rfl (nC x) _ (fun V hV => HKX.out V hV) Tryz.underlying61 (by rfl) (by kernel_rfl)) ?_
            try simp only [Act.put, sqA, sqB, sqC, sqD, sqE, sqF]
            refine wpAnyH_ready (rs := [13]) (by kernel_rfl) (by simp) ?_
            refine AllReadyH.cons (o := _) rfl (fun K hK => ?_) AllReadyH.nil
            go_simp
            try rw [if_pos (by omega)]
            refine (HBEF.out _).mono ?_
            rintro e2 V9 ⟨rfl, hb9⟩
            go_wp2_with fail
            refine hK.out _ _ (gNx hs0 hb9) (fun hs0 => ?_)
            clear hK K
            try simp only [Act.put, sqA, sqB, sqC, sqD, sqE, sqF]
            refine tk 14 (by assumption) rfl (by kernel_rfl) (fun _ _ _ h => h) (fun V hV => by go_simp; try with_reducible rfl) ?_
            try simp only [Act.put, sqA, sqB, sqC, sqD, sqE, sqF]
            refine wpAnyH_done (by kernel_rfl) ?_ _
            have HK9 : Hid (Below wr.heap.size wr V9) := Lib.hid ((Below.refl _ wr).drew.trans hb9)
            clear hb9
            have HROWW : Hid (∃ r, w.heap.size ≤ r ∧ Nr V9 r (.slice a3 O.length c3) O) := Lib.hid (by obtain ⟨r, h1, h2⟩ := HROWW0.out; exact ⟨r, h1, h2.below HK9.out⟩)
            clear HROWW0 HBEF
            cases hb : aheadB x n with
            | false =>
              have HBEF := Lib.hid (fun W => rBefore_any x.dest x.kind x.dist x.radius x.home n.dest n.kind n.dist n.radius n.home W)
              have eah : (if x.kind == n.kind then decide (x.dest < n.dest) else decide (x.kind < n.kind)) = aheadB x n := rfl
              rw [eah, hb] at HBEF
              clear eah
              have HTOT : Hid (O ++ mD (l.drop (i + 1)) (ns.drop k) = mD l ns) := Lib.hid (by have := HTT.out; rw [HDN.out, mD, if_neg (by have := HK1.out; omega), if_neg (by rw [hb] at hky2; simpa using hky2.symm), ← HDN.out] at this; exact this)
              clear hky2 hb
              go_upto_region 9 with (fail)
              obtain ⟨V8, hV8⟩ : ∃ V8, V8 = V9 := ⟨_, rfl⟩
              subst hV8
              refine wp_region_held_drew (S := fun V => Below w.heap.size w V) (by kernel_rfl) hs0.drew (fun hs0 => ?_)
              refine tk 0 (by assumption) rfl (by kernel_rfl) (fun _ _ _ h => h) (fun V hV => by go_simp; try with_reducible rfl) ?_
              try simp only [Act.put, sqA, sqB, sqC, sqD, sqE, sqF]
              refine tk 1 (by assumption) rfl (by kernel_rfl) (fun _ _ _ h => h) (fun V hV => by go_simp; try with_reducible rfl) ?_
              try simp only [Act.put, sqA, sqB, sqC, sqD, sqE, sqF]
              refine tk 2 (by assumption) rfl (by kernel_rfl) (fun _ _ _ h => h) (fun V hV => by go_simp; try with_reducible rfl) ?_
              try simp only [Act.put, sqA, sqB, sqC, sqD, sqE, sqF]
              refine tk 3 (by assumption) rfl (by kernel_rfl) (fun _ _ _ h => h) (fun V hV => by go_simp; try with_reducible rfl) ?_
              try simp only [Act.put, sqA, sqB, sqC, sqD, sqE, sqF]
              refine tk 4 (by assumption) rfl (by kernel_rfl) (fun _ _ _ h => h) (fun V hV => by go_simp; try with_reducible rfl) ?_
              try simp only [Act.put, sqA, sqB, sqC, sqD, sqE, sqF]
              refine tk 5 (by assumption) rfl (by kernel_rfl) (fun _ _ _ h => h) (fun V hV => by go_simp; try with_reducible rfl) ?_
              try simp only [Act.put, sqA, sqB, sqC, sqD, sqE, sqF]
              refine tk 6 (by assumption) rfl (by kernel_rfl) (fun _ _ _ h => h) (fun V hV => by go_simp; try with_reducible rfl) ?_
              try simp only [Act.put, sqA, sqB, sqC, sqD, sqE, sqF]
              refine tk 7 (by assumption) rfl (by kernel_rfl) (fun _ _ _ h => h) (fun V hV => by go_simp; try with_reducible rfl) ?_
              try simp only [Act.put, sqA, sqB, sqC, sqD, sqE, sqF]
              refine tk 8 (by assumption) rfl (by kernel_rfl) (fun _ _ _ h => h) (tk_load 61 (.tmp 52) rfl bl (ol + i * 5) rfl (nC x) _ (fun V hV => HKX.out V hV) Tryz.underlying61 (by rfl) (by kernel_rfl)) ?_
              try simp only [Act.put, sqA, sqB, sqC, sqD, sqE, sqF]
              refine tk 9 (by assumption) rfl (by kernel_rfl) (fun _ _ _ h => h) (fun V hV => by go_simp; try with_reducible rfl) ?_
              try simp only [Act.put, sqA, sqB, sqC, sqD, sqE, sqF]
              refine tk 10 (by assumption) rfl (by kernel_rfl) (fun _ _ _ h => h) (fun V hV => by go_simp; try with_reducible rfl) ?_
              try simp only [Act.put, sqA, sqB, sqC, sqD, sqE, sqF]
              refine tk 11 (by assumption) rfl (by kernel_rfl) (fun _ _ _ h => h) (fun V hV => by go_simp; try with_reducible rfl) ?_
              try simp only [Act.put, sqA, sqB, sqC, sqD, sqE, sqF]
              refine tk 12 (by assumption) rfl (by kernel_rfl) (fun _ _ _ h => h) (tk_load 61 (.tmp 56) rfl bn (on + k * 5) rfl (nC n) _ (fun V hV => HKN.out V hV) Tryz.underlying61 (by rfl) (by kernel_rfl)) ?_
              try simp only [Act.put, sqA, sqB, sqC, sqD, sqE, sqF]
              refine wpAnyH_ready (rs := [13]) (by kernel_rfl) (by simp) ?_
              refine AllReadyH.cons (o := _) rfl (fun K hK => ?_) AllReadyH.nil
              go_simp
              try rw [if_pos (by omega)]
              refine (HBEF.out _).mono ?_
              rintro e2 V9 ⟨rfl, hb9⟩
              go_wp2_with fail
              refine hK.out _ _ (gNx hs0 hb9) (fun hs0 => ?_)
              clear hK K
              try simp only [Act.put, sqA, sqB, sqC, sqD, sqE, sqF]
              refine tk 14 (by assumption) rfl (by kernel_rfl) (fun _ _ _ h => h) (fun V hV => by go_simp; try with_reducible rfl) ?_
              try simp only [Act.put, sqA, sqB, sqC, sqD, sqE, sqF]
              refine tk 15 (by assumption) rfl (by kernel_rfl) (fun _ _ _ h => h) (fun V hV => by go_simp; try with_reducible rfl) ?_
              try simp only [Act.put, sqA, sqB, sqC, sqD, sqE, sqF]
              refine wpAnyH_done (by kernel_rfl) ?_ _
              have HK8 : Hid (∃ r, w.heap.size ≤ r ∧ Nr V9 r (.slice a3 O.length c3) O) := Lib.hid (by obtain ⟨r, h1, h2⟩ := HROWW.out; exact ⟨r, h1, (show Nr V8.drew r _ _ from h2).below hb9⟩)
              clear HROWW hb9
              have HROWW := HK8
              clear HK8 HBEF
              go_wp2_with fail
              refine ⟨⟨i + 1, k, O, a3, c3, rfl, rfl, congrArg (Value.int .i64) (by omega), by omega, hkl, HTOT.out, HROWW.out, by have := HOL.out; omega, by assumption⟩, by show l.length - ((i : Int) + 1).toNat < l.length - (i : Int).toNat; omega⟩
            | true =>
              have HBEF := Lib.hid (fun W => rBefore_any x.dest x.kind x.dist x.radius x.home n.dest n.kind n.dist n.radius n.home W)
              have eah : (if x.kind == n.kind then decide (x.dest < n.dest) else decide (x.kind < n.kind)) = aheadB x n := rfl
              rw [eah, hb] at HBEF
              clear eah
              have HTOT : Hid ((O ++ [x]) ++ mD (l.drop (i + 1)) (ns.drop k) = mD l ns) := Lib.hid (by have := HTT.out; rw [HDN.out, mD, if_neg (by have := HK1.out; omega), if_pos (by rw [hb] at hky2; simpa using hky2.symm), ← HDN.out] at this; rw [← this]; simp)
              clear hky2 hb
              go_upto_region 9 with (fail)
              obtain ⟨V8, hV8⟩ : ∃ V8, V8 = V9 := ⟨_, rfl⟩
              subst hV8
              refine wp_region_held_drew (S := fun V => Below w.heap.size w V) (by kernel_rfl) hs0.drew (fun hs0 => ?_)
              refine tk 0 (by assumption) rfl (by kernel_rfl) (fun _ _ _ h => h) (fun V hV => by go_simp; try with_reducible rfl) ?_
              try simp only [Act.put, sqA, sqB, sqC, sqD, sqE, sqF]
              refine tk 1 (by assumption) rfl (by kernel_rfl) (fun _ _ _ h => h) (fun V hV => by go_simp; try with_reducible rfl) ?_
              try simp only [Act.put, sqA, sqB, sqC, sqD, sqE, sqF]
              refine tk 2 (by assumption) rfl (by kernel_rfl) (fun _ _ _ h => h) (fun V hV => by go_simp; try with_reducible rfl) ?_
              try simp only [Act.put, sqA, sqB, sqC, sqD, sqE, sqF]
              refine tk 3 (by assumption) rfl (by kernel_rfl) (fun _ _ _ h => h) (fun V hV => by go_simp; try with_reducible rfl) ?_
              try simp only [Act.put, sqA, sqB, sqC, sqD, sqE, sqF]
              refine tk 4 (by assumption) rfl (by kernel_rfl) (fun _ _ _ h => h) (fun V hV => by go_simp; try with_reducible rfl) ?_
              try simp only [Act.put, sqA, sqB, sqC, sqD, sqE, sqF]
              refine tk 5 (by assumption) rfl (by kernel_rfl) (fun _ _ _ h => h) (fun V hV => by go_simp; try with_reducible rfl) ?_
              try simp only [Act.put, sqA, sqB, sqC, sqD, sqE, sqF]
              refine tk 6 (by assumption) rfl (by kernel_rfl) (fun _ _ _ h => h) (fun V hV => by go_simp; try with_reducible rfl) ?_
              try simp only [Act.put, sqA, sqB, sqC, sqD, sqE, sqF]
              refine tk 7 (by assumption) rfl (by kernel_rfl) (fun _ _ _ h => h) (fun V hV => by go_simp; try with_reducible rfl) ?_
              try simp only [Act.put, sqA, sqB, sqC, sqD, sqE, sqF]
              refine tk 8 (by assumption) rfl (by kernel_rfl) (fun _ _ _ h => h) (tk_load 61 (.tmp 52) rfl bl (ol + i * 5) rfl (nC x) _ (fun V hV => HKX.out V hV) Tryz.underlying61 (by rfl) (by kernel_rfl)) ?_
              try simp only [Act.put, sqA, sqB, sqC, sqD, sqE, sqF]
              refine tk 9 (by assumption) rfl (by kernel_rfl) (fun _ _ _ h => h) (fun V hV => by go_simp; try with_reducible rfl) ?_
              try simp only [Act.put, sqA, sqB, sqC, sqD, sqE, sqF]
              refine tk 10 (by assumption) rfl (by kernel_rfl) (fun _ _ _ h => h) (fun V hV => by go_simp; try with_reducible rfl) ?_
              try simp only [Act.put, sqA, sqB, sqC, sqD, sqE, sqF]
              refine tk 11 (by assumption) rfl (by kernel_rfl) (fun _ _ _ h => h) (fun V hV => by go_simp; try with_reducible rfl) ?_
              try simp only [Act.put, sqA, sqB, sqC, sqD, sqE, sqF]
              refine tk 12 (by assumption) rfl (by kernel_rfl) (fun _ _ _ h => h) (tk_load 61 (.tmp 56) rfl bn (on + k * 5) rfl (nC n) _ (fun V hV => HKN.out V hV) Tryz.underlying61 (by rfl) (by kernel_rfl)) ?_
              try simp only [Act.put, sqA, sqB, sqC, sqD, sqE, sqF]
              refine wpAnyH_ready (rs := [13]) (by kernel_rfl) (by simp) ?_
              refine AllReadyH.cons (o := _) rfl (fun K hK => ?_) AllReadyH.nil
              go_simp
              try rw [if_pos (by omega)]
              refine (HBEF.out _).mono ?_
              rintro e2 V9 ⟨rfl, hb9⟩
              go_wp2_with fail
              refine hK.out _ _ (gNx hs0 hb9) (fun hs0 => ?_)
              clear hK K
              try simp only [Act.put, sqA, sqB, sqC, sqD, sqE, sqF]
              refine tk 14 (by assumption) rfl (by kernel_rfl) (fun _ _ _ h => h) (fun V hV => by go_simp; try with_reducible rfl) ?_
              try simp only [Act.put, sqA, sqB, sqC, sqD, sqE, sqF]
              refine tk 15 (by assumption) rfl (by kernel_rfl) (fun _ _ _ h => h) (fun V hV => by go_simp; try with_reducible rfl) ?_
              try simp only [Act.put, sqA, sqB, sqC, sqD, sqE, sqF]
              refine wpAnyH_done (by kernel_rfl) ?_ _
              have HK8 : Hid (∃ r, w.heap.size ≤ r ∧ Nr V9 r (.slice a3 O.length c3) O) := Lib.hid (by obtain ⟨r, h1, h2⟩ := HROWW.out; exact ⟨r, h1, (show Nr V8.drew r _ _ from h2).below hb9⟩)
              clear HROWW hb9
              have HROWW := HK8
              clear HK8 HBEF
              go_upto_region 10 with (fail)
              have q0 : V9.cell? ⟨bl, ol + i * 5, none⟩ = some (.int .i64 x.dest) := HKX.out V9 hs0 0 _ rfl
              have q1 : V9.cell? ⟨bl, ol + i * 5 + 1, none⟩ = some (.int .i64 x.kind) := HKX.out V9 hs0 1 _ rfl
              have q2 : V9.cell? ⟨bl, ol + i * 5 + 2, none⟩ = some (.float .f64 x.dist) := HKX.out V9 hs0 2 _ rfl
              have q3 : V9.cell? ⟨bl, ol + i * 5 + 3, none⟩ = some (.float .f64 x.radius) := HKX.out V9 hs0 3 _ rfl
              have q4 : V9.cell? ⟨bl, ol + i * 5 + 4, none⟩ = some (.int .i64 x.home) := HKX.out V9 hs0 4 _ rfl
              have hol2 : (O ++ [x]).length = O.length + 1 := by simp
              have HOL2 := Lib.hid hol2
              clear hol2
              obtain ⟨r5, hr5, hrow5⟩ := HROWW.out
              obtain ⟨W8, hW8⟩ : ∃ W8, W8 = V9.alloc (.cells #[.int .i64 x.dest, .int .i64 x.kind, .float .f64 x.dist, .float .f64 x.radius, .int .i64 x.home] 61) := ⟨_, rfl⟩
              obtain ⟨a', c', W9, r9, hrun, hrow9, hr9, hb9⟩ := nw_app x hrow5 (by have := HLE.out; have := HOL.out; omega) hr5 hs0 hs0.size W8 hW8
              rw [hW8] at hrun
              have HRUN := Lib.hid hrun
              have HROW9 := Lib.hid (And.intro hr9 (And.intro hrow9 hb9))
              clear hrun hrow9 hr9 hb9 hW8 hr5 hrow5
              generalize hO2 : O ++ [x] = O2 at *
              have HO2 := Lib.hid hO2
              clear hO2
              go_wp2_with (at_builtin; refine Lib.wpList_append_run _ rfl _ _ _ _ rfl _ _ rfl rfl _ _ (HRUN.out _) ?_)
              refine ⟨⟨i + 1, k, O2, a', c', rfl, rfl, congrArg (Value.int .i64) (by omega), by omega, hkl, HTOT.out, ⟨r9, HROW9.out.1, HROW9.out.2.1⟩, by have h1 := HOL.out; have h2 := HOL2.out; omega, HROW9.out.2.2⟩, by show l.length - ((i : Int) + 1).toNat < l.length - (i : Int).toNat; omega⟩
        · have hnki : ¬ (k : Int) < (ns.length : Int) := by omega
          have hmd : mD (x :: l.drop (i + 1)) (ns.drop k) = x :: mD (l.drop (i + 1)) (ns.drop k) := by
            rw [List.drop_of_length_le (show ns.length ≤ k by omega)]; rw [mD]
          have HTT := Lib.hid HM.out.tot
          have HROWW0 := Lib.hid HM.out.row
          have HOL := Lib.hid HM.out.len
          have HTOT : Hid ((O ++ [x]) ++ mD (l.drop (i + 1)) (ns.drop k) = mD l ns) := Lib.hid (by have := HTT.out; rw [hmd] at this; rw [← this]; simp)
          clear hmd
          go_upto_region 5 with (fail)
          refine wp_region_held_drew (S := fun V => Below w.heap.size w V) (by kernel_rfl) hbi.drew (fun hs0 => ?_)
          refine tk 0 (by assumption) rfl (by kernel_rfl) (fun _ _ _ h => h) (fun V hV => by go_simp; try with_reducible rfl) ?_
          try simp only [Act.put, sqA, sqB, sqC, sqD, sqE, sqF]
          refine tk 1 (by assumption) rfl (by kernel_rfl) (fun _ _ _ h => h) (fun V hV => by go_simp; try with_reducible rfl) ?_
          try simp only [Act.put, sqA, sqB, sqC, sqD, sqE, sqF]
          refine tk 2 (by assumption) rfl (by kernel_rfl) (fun _ _ _ h => h) (fun V hV => by go_simp; try with_reducible rfl) ?_
          try simp only [Act.put, sqA, sqB, sqC, sqD, sqE, sqF]
          refine tk 3 (by assumption) rfl (by kernel_rfl) (fun _ _ _ h => h) (fun V hV => by go_simp; try with_reducible rfl) ?_
          try simp only [Act.put, sqA, sqB, sqC, sqD, sqE, sqF]
          refine tk 4 (by assumption) rfl (by kernel_rfl) (fun _ _ _ h => h) (fun V hV => by go_simp; try with_reducible rfl) ?_
          try simp only [Act.put, sqA, sqB, sqC, sqD, sqE, sqF]
          refine wpAnyH_take (i := 5) (oi := _) (v := undef) rfl (by kernel_rfl) (by kernel_rfl) (by kernel_rfl) (fun _ _ _ h => h) (Or.inr ⟨by kernel_rfl, rfl⟩) (by assumption) ?_
          try simp only [Act.put, sqA, sqB, sqC, sqD, sqE, sqF]
          refine wpAnyH_take (i := 6) (oi := _) (v := undef) rfl (by kernel_rfl) (by kernel_rfl) (by kernel_rfl) (fun _ _ _ h => h) (Or.inr ⟨by kernel_rfl, rfl⟩) (by assumption) ?_
          try simp only [Act.put, sqA, sqB, sqC, sqD, sqE, sqF]
          refine wpAnyH_take (i := 7) (oi := _) (v := undef) rfl (by kernel_rfl) (by kernel_rfl) (by kernel_rfl) (fun _ _ _ h => h) (Or.inr ⟨by kernel_rfl, rfl⟩) (by assumption) ?_
          try simp only [Act.put, sqA, sqB, sqC, sqD, sqE, sqF]
          refine wpAnyH_take (i := 8) (oi := _) (v := undef) rfl (by kernel_rfl) (by kernel_rfl) (by kernel_rfl) (fun _ _ _ h => h) (Or.inr ⟨by kernel_rfl, rfl⟩) (by assumption) ?_
          try simp only [Act.put, sqA, sqB, sqC, sqD, sqE, sqF]
          refine wpAnyH_take (i := 9) (oi := _) (v := undef) rfl (by kernel_rfl) (by kernel_rfl) (by kernel_rfl) (fun _ _ _ h => h) (Or.inr ⟨by kernel_rfl, rfl⟩) (by assumption) ?_
          try simp only [Act.put, sqA, sqB, sqC, sqD, sqE, sqF]
          refine wpAnyH_take (i := 10) (oi := _) (v := undef) rfl (by kernel_rfl) (by kernel_rfl) (by kernel_rfl) (fun _ _ _ h => h) (Or.inr ⟨by kernel_rfl, rfl⟩) (by assumption) ?_
          try simp only [Act.put, sqA, sqB, sqC, sqD, sqE, sqF]
          refine wpAnyH_take (i := 11) (oi := _) (v := undef) rfl (by kernel_rfl) (by kernel_rfl) (by kernel_rfl) (fun _ _ _ h => h) (Or.inr ⟨by kernel_rfl, rfl⟩) (by assumption) ?_
          try simp only [Act.put, sqA, sqB, sqC, sqD, sqE, sqF]
          refine wpAnyH_take (i := 12) (oi := _) (v := undef) rfl (by kernel_rfl) (by kernel_rfl) (by kernel_rfl) (fun _ _ _ h => h) (Or.inr ⟨by kernel_rfl, rfl⟩) (by assumption) ?_
          try simp only [Act.put, sqA, sqB, sqC, sqD, sqE, sqF]
          refine wpAnyH_take (i := 13) (oi := _) (v := undef) rfl (by kernel_rfl) (by kernel_rfl) (by kernel_rfl) (fun _ _ _ h => h) (Or.inr ⟨by kernel_rfl, rfl⟩) (by assumption) ?_
          try simp only [Act.put, sqA, sqB, sqC, sqD, sqE, sqF]
          refine tk 14 (by assumption) rfl (by kernel_rfl) (fun _ _ _ h => h) (fun V hV => by go_simp; try with_reducible rfl) ?_
          try simp only [Act.put, sqA, sqB, sqC, sqD, sqE, sqF]
          refine wpAnyH_done (by kernel_rfl) ?_ _
          have HK9 : Hid (Below wr.heap.size wr wr.drew) := Lib.hid (Below.refl _ wr).drew
          generalize wr.drew = V9 at *
          have HROWW : Hid (∃ r, w.heap.size ≤ r ∧ Nr V9 r (.slice a3 O.length c3) O) := Lib.hid (by obtain ⟨r, h1, h2⟩ := HROWW0.out; exact ⟨r, h1, h2.below HK9.out⟩)
          clear HROWW0
          go_upto_region 9 with (fail)
          obtain ⟨V8, hV8⟩ : ∃ V8, V8 = V9 := ⟨_, rfl⟩
          subst hV8
          refine wp_region_held_drew (S := fun V => Below w.heap.size w V) (by kernel_rfl) hs0.drew (fun hs0 => ?_)
          refine tk 0 (by assumption) rfl (by kernel_rfl) (fun _ _ _ h => h) (fun V hV => by go_simp; try with_reducible rfl) ?_
          try simp only [Act.put, sqA, sqB, sqC, sqD, sqE, sqF]
          refine tk 1 (by assumption) rfl (by kernel_rfl) (fun _ _ _ h => h) (fun V hV => by go_simp; try with_reducible rfl) ?_
          try simp only [Act.put, sqA, sqB, sqC, sqD, sqE, sqF]
          refine tk 2 (by assumption) rfl (by kernel_rfl) (fun _ _ _ h => h) (fun V hV => by go_simp; try with_reducible rfl) ?_
          try simp only [Act.put, sqA, sqB, sqC, sqD, sqE, sqF]
          refine tk 3 (by assumption) rfl (by kernel_rfl) (fun _ _ _ h => h) (fun V hV => by go_simp; try with_reducible rfl) ?_
          try simp only [Act.put, sqA, sqB, sqC, sqD, sqE, sqF]
          refine tk 4 (by assumption) rfl (by kernel_rfl) (fun _ _ _ h => h) (fun V hV => by go_simp; try with_reducible rfl) ?_
          try simp only [Act.put, sqA, sqB, sqC, sqD, sqE, sqF]
          refine wpAnyH_take (i := 5) (oi := _) (v := undef) rfl (by kernel_rfl) (by kernel_rfl) (by kernel_rfl) (fun _ _ _ h => h) (Or.inr ⟨by kernel_rfl, rfl⟩) (by assumption) ?_
          try simp only [Act.put, sqA, sqB, sqC, sqD, sqE, sqF]
          refine wpAnyH_take (i := 6) (oi := _) (v := undef) rfl (by kernel_rfl) (by kernel_rfl) (by kernel_rfl) (fun _ _ _ h => h) (Or.inr ⟨by kernel_rfl, rfl⟩) (by assumption) ?_
          try simp only [Act.put, sqA, sqB, sqC, sqD, sqE, sqF]
          refine wpAnyH_take (i := 7) (oi := _) (v := undef) rfl (by kernel_rfl) (by kernel_rfl) (by kernel_rfl) (fun _ _ _ h => h) (Or.inr ⟨by kernel_rfl, rfl⟩) (by assumption) ?_
          try simp only [Act.put, sqA, sqB, sqC, sqD, sqE, sqF]
          refine wpAnyH_take (i := 8) (oi := _) (v := undef) rfl (by kernel_rfl) (by kernel_rfl) (by kernel_rfl) (fun _ _ _ h => h) (Or.inr ⟨by kernel_rfl, rfl⟩) (by assumption) ?_
          try simp only [Act.put, sqA, sqB, sqC, sqD, sqE, sqF]
          refine wpAnyH_take (i := 9) (oi := _) (v := undef) rfl (by kernel_rfl) (by kernel_rfl) (by kernel_rfl) (fun _ _ _ h => h) (Or.inr ⟨by kernel_rfl, rfl⟩) (by assumption) ?_
          try simp only [Act.put, sqA, sqB, sqC, sqD, sqE, sqF]
          refine wpAnyH_take (i := 10) (oi := _) (v := undef) rfl (by kernel_rfl) (by kernel_rfl) (by kernel_rfl) (fun _ _ _ h => h) (Or.inr ⟨by kernel_rfl, rfl⟩) (by assumption) ?_
          try simp only [Act.put, sqA, sqB, sqC, sqD, sqE, sqF]
          refine wpAnyH_take (i := 11) (oi := _) (v := undef) rfl (by kernel_rfl) (by kernel_rfl) (by kernel_rfl) (fun _ _ _ h => h) (Or.inr ⟨by kernel_rfl, rfl⟩) (by assumption) ?_
          try simp only [Act.put, sqA, sqB, sqC, sqD, sqE, sqF]
          refine wpAnyH_take (i := 12) (oi := _) (v := undef) rfl (by kernel_rfl) (by kernel_rfl) (by kernel_rfl) (fun _ _ _ h => h) (Or.inr ⟨by kernel_rfl, rfl⟩) (by assumption) ?_
          try simp only [Act.put, sqA, sqB, sqC, sqD, sqE, sqF]
          refine wpAnyH_take (i := 13) (oi := _) (v := undef) rfl (by kernel_rfl) (by kernel_rfl) (by kernel_rfl) (fun _ _ _ h => h) (Or.inr ⟨by kernel_rfl, rfl⟩) (by assumption) ?_
          try simp only [Act.put, sqA, sqB, sqC, sqD, sqE, sqF]
          refine wpAnyH_take (i := 14) (oi := _) (v := undef) rfl (by kernel_rfl) (by kernel_rfl) (by kernel_rfl) (fun _ _ _ h => h) (Or.inr ⟨by kernel_rfl, rfl⟩) (by assumption) ?_
          try simp only [Act.put, sqA, sqB, sqC, sqD, sqE, sqF]
          refine tk 15 (by assumption) rfl (by kernel_rfl) (fun _ _ _ h => h) (fun V hV => by go_simp; try with_reducible rfl) ?_
          try simp only [Act.put, sqA, sqB, sqC, sqD, sqE, sqF]
          refine wpAnyH_done (by kernel_rfl) ?_ _
          have HROWX : Hid (∃ r, w.heap.size ≤ r ∧ Nr V8.drew r (.slice a3 O.length c3) O) := Lib.hid HROWW.out
          clear HROWW
          have HROWW := HROWX
          clear HROWX
          generalize V8.drew = V9 at *
          go_upto_region 10 with (fail)
          have q0 : V9.cell? ⟨bl, ol + i * 5, none⟩ = some (.int .i64 x.dest) := HKX.out V9 hs0 0 _ rfl
          have q1 : V9.cell? ⟨bl, ol + i * 5 + 1, none⟩ = some (.int .i64 x.kind) := HKX.out V9 hs0 1 _ rfl
          have q2 : V9.cell? ⟨bl, ol + i * 5 + 2, none⟩ = some (.float .f64 x.dist) := HKX.out V9 hs0 2 _ rfl
          have q3 : V9.cell? ⟨bl, ol + i * 5 + 3, none⟩ = some (.float .f64 x.radius) := HKX.out V9 hs0 3 _ rfl
          have q4 : V9.cell? ⟨bl, ol + i * 5 + 4, none⟩ = some (.int .i64 x.home) := HKX.out V9 hs0 4 _ rfl
          have hol2 : (O ++ [x]).length = O.length + 1 := by simp
          have HOL2 := Lib.hid hol2
          clear hol2
          obtain ⟨r5, hr5, hrow5⟩ := HROWW.out
          obtain ⟨W8, hW8⟩ : ∃ W8, W8 = V9.alloc (.cells #[.int .i64 x.dest, .int .i64 x.kind, .float .f64 x.dist, .float .f64 x.radius, .int .i64 x.home] 61) := ⟨_, rfl⟩
          obtain ⟨a', c', W9, r9, hrun, hrow9, hr9, hb9⟩ := nw_app x hrow5 (by have := HLE.out; have := HOL.out; omega) hr5 hs0 hs0.size W8 hW8
          rw [hW8] at hrun
          have HRUN := Lib.hid hrun
          have HROW9 := Lib.hid (And.intro hr9 (And.intro hrow9 hb9))
          clear hrun hrow9 hr9 hb9 hW8 hr5 hrow5
          generalize hO2 : O ++ [x] = O2 at *
          have HO2 := Lib.hid hO2
          clear hO2
          go_wp2_with (at_builtin; refine Lib.wpList_append_run _ rfl _ _ _ _ rfl _ _ rfl rfl _ _ (HRUN.out _) ?_)
          refine ⟨⟨i + 1, k, O2, a', c', rfl, rfl, congrArg (Value.int .i64) (by omega), by omega, hkl, HTOT.out, ⟨r9, HROW9.out.1, HROW9.out.2.1⟩, by have h1 := HOL.out; have h2 := HOL2.out; omega, HROW9.out.2.2⟩, by show l.length - ((i : Int) + 1).toNat < l.length - (i : Int).toNat; omega⟩
    · -- the end: what is left of the news
      have hnli : ¬ (i : Int) < (l.length : Int) := by omega
      have hil : l.drop i = [] := List.drop_of_length_le (by omega)
      go_wp2_with fail
      go_loopw [5, 6] (fun ov kv wi => ∃ (k : Nat) (O : List Nw) (a : Option Addr) (c : Nat), ov = .slice a O.length c ∧ kv = .int .i64 (k : Int) ∧ Md w l ns [] k O a c i wi) (fun _ kv _ => ns.length - (RowKit.intOf kv).toNat)
      case atStart => exact ⟨k0, O0, a0, c0, rfl, rfl, by have := HM0.out; rw [hil] at this; exact this⟩
      case round =>
        obtain ⟨k, O, a3, c3, rfl, rfl, hmd⟩ := hrel
        clear HM0 hil
        obtain ⟨V9, hV9⟩ : ∃ V9, V9 = wr := ⟨_, rfl⟩
        subst hV9
        have hkl := hmd.kle
        have hs0 := hmd.bel
        have HROWW := Lib.hid hmd.row
        have HOL := Lib.hid hmd.len
        have HTT := Lib.hid hmd.tot
        clear hmd
        by_cases hk : k < ns.length
        · have hki : (k : Int) < (ns.length : Int) := by omega
          have hk0i : (0 : Int) ≤ (k : Int) := by omega
          have hkw : IntKind.i64.wrap ((k : Int) + 1) = (k : Int) + 1 := by rw [IntKind.wrap_i64]; have := HLE.out; omega
          obtain ⟨bn, on, rfl, hbn, hatn⟩ := HN.out.at k hk
          have HKN := Lib.hid (rng_of (B := 0) hatn hk hbn)
          have HDN := Lib.hid (drop_cons hk)
          obtain ⟨hnb, hnf⟩ := HNB.out ns[k] (List.getElem_mem _)
          clear hatn
          generalize ns[k] = n at *
          have hmd : mD [] (ns.drop k) = fins n ++ mD [] (ns.drop (k + 1)) := by rw [HDN.out, mD, mD, List.flatMap_cons]
          cases hg : infP n.dist with
          | true =>
            have hle : (FloatKind.f64.format.order n.dist 9218868437227405311 == some .lt || FloatKind.f64.format.order n.dist 9218868437227405311 == some .eq) = false := by rw [fin_leq hnb hnf, hg]; rfl
            have HTOT : Hid (O ++ mD ([]) (ns.drop (k + 1)) = mD l ns) := Lib.hid (by have := HTT.out; rw [hmd, show fins n = [] from by unfold fins; rw [hg]; rfl] at this; simpa using this)
            clear hg hmd
            have q0 : V9.cell? ⟨bn, on + k * 5, none⟩ = some (.int .i64 n.dest) := HKN.out V9 hs0 0 _ rfl
            have q1 : V9.cell? ⟨bn, on + k * 5 + 1, none⟩ = some (.int .i64 n.kind) := HKN.out V9 hs0 1 _ rfl
            have q2 : V9.cell? ⟨bn, on + k * 5 + 2, none⟩ = some (.float .f64 n.dist) := HKN.out V9 hs0 2 _ rfl
            have q3 : V9.cell? ⟨bn, on + k * 5 + 3, none⟩ = some (.float .f64 n.radius) := HKN.out V9 hs0 3 _ rfl
            have q4 : V9.cell? ⟨bn, on + k * 5 + 4, none⟩ = some (.int .i64 n.home) := HKN.out V9 hs0 4 _ rfl
            go_wp2_with fail
            refine ⟨⟨k + 1, O, a3, c3, rfl, congrArg (Value.int .i64) (by omega), by omega, HTOT.out, HROWW.out, by have := HOL.out; omega, by assumption⟩, by show ns.length - ((k : Int) + 1).toNat < ns.length - (k : Int).toNat; omega⟩
          | false =>
            have hle : (FloatKind.f64.format.order n.dist 9218868437227405311 == some .lt || FloatKind.f64.format.order n.dist 9218868437227405311 == some .eq) = true := by rw [fin_leq hnb hnf, hg]; rfl
            have HTOT : Hid ((O ++ [n]) ++ mD ([]) (ns.drop (k + 1)) = mD l ns) := Lib.hid (by have := HTT.out; rw [hmd, show fins n = [n] from by unfold fins; rw [hg]; rfl] at this; rw [← this]; simp)
            clear hg hmd
            have q0 : V9.cell? ⟨bn, on + k * 5, none⟩ = some (.int .i64 n.dest) := HKN.out V9 hs0 0 _ rfl
            have q1 : V9.cell? ⟨bn, on + k * 5 + 1, none⟩ = some (.int .i64 n.kind) := HKN.out V9 hs0 1 _ rfl
            have q2 : V9.cell? ⟨bn, on + k * 5 + 2, none⟩ = some (.float .f64 n.dist) := HKN.out V9 hs0 2 _ rfl
            have q3 : V9.cell? ⟨bn, on + k * 5 + 3, none⟩ = some (.float .f64 n.radius) := HKN.out V9 hs0 3 _ rfl
            have q4 : V9.cell? ⟨bn, on + k * 5 + 4, none⟩ = some (.int .i64 n.home) := HKN.out V9 hs0 4 _ rfl
            have hol2 : (O ++ [n]).length = O.length + 1 := by simp
            have HOL2 := Lib.hid hol2
            clear hol2
            obtain ⟨r5, hr5, hrow5⟩ := HROWW.out
            obtain ⟨W8, hW8⟩ : ∃ W8, W8 = V9.alloc (.cells #[.int .i64 n.dest, .int .i64 n.kind, .float .f64 n.dist, .float .f64 n.radius, .int .i64 n.home] 61) := ⟨_, rfl⟩
            obtain ⟨a', c', W9, r9, hrun, hrow9, hr9, hb9⟩ := nw_app n hrow5 (by have := HLE.out; have := HOL.out; omega) hr5 hs0 hs0.size W8 hW8
            rw [hW8] at hrun
            have HRUN := Lib.hid hrun
            have HROW9 := Lib.hid (And.intro hr9 (And.intro hrow9 hb9))
            clear hrun hrow9 hr9 hb9 hW8 hr5 hrow5
            generalize hO2 : O ++ [n] = O2 at *
            have HO2 := Lib.hid hO2
            clear hO2
            go_wp2_with (at_builtin; refine Lib.wpList_append_run _ rfl _ _ _ _ rfl _ _ rfl rfl _ _ (HRUN.out _) ?_)
            refine ⟨⟨k + 1, O2, a', c', rfl, congrArg (Value.int .i64) (by omega), by omega, HTOT.out, ⟨r9, HROW9.out.1, HROW9.out.2.1⟩, by have h1 := HOL.out; have h2 := HOL2.out; omega, HROW9.out.2.2⟩, by show ns.length - ((k : Int) + 1).toNat < ns.length - (k : Int).toNat; omega⟩
        · have hnki : ¬ (k : Int) < (ns.length : Int) := by omega
          have HE : Hid (O = mD l ns) := Lib.hid (by have := HTT.out; rw [List.drop_of_length_le (show ns.length ≤ k by omega), mD] at this; simpa using this)
          obtain ⟨r5, hr5, hrow5⟩ := HROWW.out
          have HRR := Lib.hid (And.intro hr5 hrow5)
          clear hr5 hrow5
          go_wp2_with fail
          refine bodyPost_ret (v := .slice a3 O.length c3) (by simp [results, Tryz.results48, go_sem]) rfl ?_
          exact ⟨hs0, a3, c3, r5, by rw [HE.out]; rfl, HRR.out.1, by rw [← HE.out]; exact HRR.out.2⟩
end Go.Proofs.YtjhmfmpaaljegaaGreat
