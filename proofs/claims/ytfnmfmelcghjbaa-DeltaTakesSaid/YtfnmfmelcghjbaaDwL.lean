/- Deltas: arguments of what is taken; its law. -/
import Derived.Test.YtfnmfmelcghjbaaDwK
import Derived.Test.YtfnmfmelcghjbaaNqP
namespace Go.Proofs.Ytfnmfmelcghjbaa
open Go.RowKit Go.Lib Go.Wq Go.Ow Go.Cw Go.Fq Go.Mq Go.Kq Go.Kw Go.Dq
set_option linter.unusedVariables false
set_option linter.unusedSimpArgs false
set_option maxRecDepth 100000

theorem gc_u64 : Try.prog.cellsOf 29 = 1 := by kernel_rfl
section
variable {H : Type} {enc : TypeId × Value → H} {w : World} {spare : Nat → Bool} {held : Bool}
theorem gin_u64 {n : Nat} {v : Value} {x : DataW H × List MemPlace} (h : DataW.trod enc Try.prog w 0 spare held n 29 [v] = some x) : ∃ z : Int, v = .int .u64 z ∧ 0 ≤ z ∧ z ≤ 18446744073709551615 := by
  obtain ⟨u, hu, -, wu⟩ := DataW.trod_int Try.underlying29 h
  simp only [List.cons.injEq, and_true] at hu
  have := bounds_u64 wu
  exact ⟨u, hu, by omega, by omega⟩
end
theorem st_in1 : Go.Np.St Try.prog 45 [(29, 0)] := ⟨_, Try.underlying45, by kernel_rfl⟩
theorem gc_in1 : Try.prog.cellsOf 45 = 1 := by kernel_rfl
theorem gin_in1 {H : Type} {enc : TypeId × Value → H} {w : World} {spare : Nat → Bool} {held : Bool} {n : Nat} {cs : List Value} {x : DataW H × List MemPlace} (h : DataW.trod enc Try.prog w 0 spare held n 45 cs = some x) : ∃ (l : Int), cs = [.int .u64 l] ∧ (0 ≤ l ∧ l ≤ 18446744073709551615) := by
  obtain ⟨d, p⟩ := x
  obtain ⟨xs, m, -, -, hcl, hxl, hat, -⟩ := st_in1.opens h
  rw [gc_in1] at hcl
  match cs, hcl, xs, hxl with
  | [v0], _, [x0], _ =>
    have e0 := hat 0 (by simp)
    simp [gc_u64] at e0
    obtain ⟨a0, rfl, p0⟩ := gin_u64 e0
    exact ⟨a0, rfl, p0⟩
theorem gc_u64c : Try.prog.cellsOf 29 = 1 := by kernel_rfl
theorem gin_u64c {H : Type} {enc : TypeId × Value → H} {w : World} {spare : Nat → Bool} {held : Bool} {n : Nat} {cs : List Value} {x : DataW H × List MemPlace} (h : DataW.trod enc Try.prog w 0 spare held n 29 cs = some x) : ∃ z : Int, cs = [.int .u64 z] ∧ (0 ≤ z ∧ z ≤ 18446744073709551615) := by
  obtain ⟨u, hu, -, wu⟩ := DataW.trod_int Try.underlying29 h
  have := bounds_u64 wu
  exact ⟨u, hu, by omega, by omega⟩
structure Nu where
  n : Int
def NuAt (w : World) (b o : Nat) (a : Nu) : Prop := w.cell? ⟨b, o, none⟩ = some (.int .u64 a.n)
def NuOk (a : Nu) : Prop := (0 ≤ a.n ∧ a.n ≤ 18446744073709551615)
def NusIn (w : World) (l : List Nu) (a : Option Addr) : Prop := l = [] ∨ ∃ b o, a = some ⟨b, o, none⟩ ∧ b < w.heap.size ∧ ∀ i (hi : i < l.length), NuAt w b (o + i * 1) l[i]
theorem NusIn.keep {w w' : World} {l : List Nu} {a : Option Addr} {B : Nat} (h : NusIn w l a) (hB : B = w.heap.size) (k : Below B w w') : NusIn w' l a := by
  subst hB
  rcases h with h | ⟨b, o, rfl, hb, hc⟩
  · exact Or.inl h
  · refine Or.inr ⟨b, o, rfl, Nat.lt_of_lt_of_le hb k.size, fun i hi => ?_⟩
    have e := fun q => World.cell?_of_block (a := ⟨b, q, none⟩) (k.block b hb)
    have a0 := hc i hi
    exact (e _).trans a0
theorem gb_u64c : Try.prog.bytesOf 29 = 8 := by kernel_rfl
structure NusOk (w : World) (l : List Nu) (a : Option Addr) : Prop where
  rows : NusIn w l a
  ok : ∀ x ∈ l, NuOk x
  n1 : l.length * 8 ≤ 140737488351232
theorem gin_u64s {H : Type} {enc : TypeId × Value → H} {w : World} {spare : Nat → Bool} {held : Bool} {n : Nat} {a : Option Addr} {k c : Nat} {x : DataW H × List MemPlace} (h : DataW.trod enc Try.prog w 0 spare held n 46 [.slice a k c] = some x) (hw : ∀ z ∈ x.1.weights Try.prog 46, z ≤ reachBytes) :
    ∃ l : List Nu, k = l.length ∧ NusOk w l a := by
  have hR : reachBytes = 140737488351232 := rfl
  rcases Go.Np.open_slice (k := 1) Try.underlying46 gc_u64c (by omega) h with h0 | ⟨m, b, o, el, sp, rfl, rfl, hb, he, hel, hel2⟩
  · exact ⟨[], by simpa using h0, Or.inl rfl, by simp, by simp⟩
  · rw [he] at hw
    obtain ⟨hq, hq2⟩ := Go.Np.weights_elem Try.underlying46 hw
    rw [gb_u64c] at hq
    obtain ⟨l, hl, hl2⟩ := Go.Np.list_of (Q := fun i (y : Nu) => NuAt w b (o + i * 1) y ∧ NuOk y) el.length (fun i hi => by
      obtain ⟨cs, ps', hcl, hcc, htr⟩ := hel2 i hi
      obtain ⟨y0, hy, hok⟩ := gin_u64c htr
      have g := fun j (hj : j < cs.length) => hcc j hj
      subst hy
      exact ⟨⟨y0⟩, g 0 (by simp), hok⟩)
    refine ⟨l, by omega, Or.inr ⟨b, o, rfl, hb, fun i hi => (hl2 i hi).1⟩, fun y hy => ?_, by have := Nat.mul_le_mul_right 8 (Nat.le_add_right el.length sp.length); omega⟩
    obtain ⟨i, hi, rfl⟩ := List.getElem_of_mem hy
    exact (hl2 i hi).2
theorem set1 (V : World) (b : Nat) (v : Value) : V.setCells b 0 [v] = V.setCell ⟨b, 0, none⟩ v := by simp [World.setCells]
set_option maxHeartbeats 16000000 in
theorem law_dtakes (l : Int) (ns : List Nu) (a : Option Addr) (c : Nat) (w : World) (hl : 0 ≤ l ∧ l ≤ 18446744073709551615) (hn : NusOk w ns a) :
    Calls Try.prog 5 #[.agg #[.int .u64 l], .slice a ns.length c] w fun e w' => e = .returned (.bool true) ∧ Below w.heap.size w w' := by
  have HN := Lib.hid hn
  have HLN : Hid (ns.length * 8 ≤ 140737488351232) := Lib.hid hn.n1
  clear hn
  go_enter Try.func5, Try.ntmps5
  go_upto_region 2 with fail
  obtain ⟨W0, hW0⟩ : ∃ W0, W0 = w.alloc (.cells #[.int .u64 l] 45) := ⟨_, rfl⟩
  obtain ⟨W1, hW1⟩ : ∃ W1, W1 = W0.alloc (.cells #[.int .u64 l] 45) := ⟨_, rfl⟩
  have hz0 : W0.heap.size = w.heap.size + 1 := by rw [hW0, World.size_alloc]
  have q2 : Cs W1 w.heap.size [.int .u64 l] := by rw [hW1]; exact (by rw [hW0]; exact Cs.first w _ _ : Cs W0 w.heap.size [.int .u64 l]).below (gAl _ _) (by omega)
  have q5 : Cs W1 (w.heap.size + 1) [.int .u64 l] := by rw [hW1, ← hz0]; exact Cs.first W0 _ _
  have hb1 : Below w.heap.size w W1 := by rw [hW1]; exact gNx (by rw [hW0]; exact gAl _ _) (gAl _ _)
  rw [← hW0, ← hW1]
  clear hW0 hW1 hz0 W0
  have H1 := Lib.hid (And.intro hb1 (And.intro q2 q5))
  clear hb1 q2 q5
  go_wp2_with fail
  go_loopw [6] (fun ii wr => ∃ (k : Nat) (m : Int), ii = .int .i64 (k : Int) ∧ k ≤ ns.length ∧ (0 ≤ m ∧ m < 18446744073709551616) ∧ Below w.heap.size w wr ∧ Cs wr w.heap.size [.int .u64 m] ∧ Cs wr (w.heap.size + 1) [.int .u64 m]) (fun ii _ => ns.length - (RowKit.intOf ii).toNat)
  case atStart => exact ⟨0, l, rfl, Nat.zero_le _, ⟨hl.1, by omega⟩, H1.out⟩
  case round =>
    obtain ⟨k, m, rfl, hk, hm, hbel, q2, q5⟩ := hrel
    have HQ := Lib.hid (And.intro hbel (And.intro q2 q5))
    have HM := Lib.hid hm
    clear hbel q2 q5 hm
    by_cases hlt : k < ns.length
    · have hlti : (k : Int) < (ns.length : Int) := by omega
      have hk0 : (0 : Int) ≤ (k : Int) := by omega
      have hkw : IntKind.i64.wrap ((k : Int) + 1) = (k : Int) + 1 := by rw [IntKind.wrap_i64]; have := HLN.out; omega
      obtain ⟨b, o, rfl, HE⟩ : ∃ b o, a = some ⟨b, o, none⟩ ∧ Hid (∀ V, Below wr.heap.size wr V → V.cell? ⟨b, o + k, none⟩ = some (.int .u64 ns[k].n)) := by
        rcases HN.out.rows with h0 | ⟨b, o, rfl, hb, hat⟩
        · rw [h0] at hlt; simp at hlt
        · refine ⟨b, o, rfl, Lib.hid (fun V hV => ?_)⟩
          have h2 := hat k hlt
          unfold NuAt at h2
          rw [Nat.mul_one] at h2
          exact (World.cell?_of_block (a := ⟨b, o + k, none⟩) ((gNx HQ.out.1 hV).block b hb)).trans h2
      have hs : 0 ≤ ns[k].n ∧ ns[k].n < 18446744073709551616 := by
        have := HN.out.ok _ (List.getElem_mem hlt)
        unfold NuOk at this
        omega
      generalize ns[k].n = s at *
      have HT := Lib.hid (fun V => take_core s m hs HM.out V)
      have HR := Lib.hid (fun V => rTake_any s m hs HM.out V)
      have HM2 : Hid (0 ≤ (if m < s ∧ s - m = 1 then s else m) ∧ (if m < s ∧ s - m = 1 then s else m) < 18446744073709551616) := Lib.hid (by split; exact hs; exact HM.out)
      generalize (if m < s ∧ s - m = 1 then s else m) = m2 at *
      generalize decide (m < s ∧ s - m = 1) = fr at *
      generalize decide ((m < s ∧ s - m = 1) ∨ (1 ≤ s ∧ s ≤ m)) = ak at *
      clear hs
      go_upto_region 5 with fail
      obtain ⟨wr5, hwr5⟩ : ∃ wr5, wr5 = wr := ⟨_, rfl⟩
      subst hwr5
      refine wp_region_held_drew (S := fun V => Below wr5.heap.size wr5 V) (by kernel_rfl) (Below.refl wr5.heap.size wr5).drew (fun hH => ?_)
      clear hH
      obtain ⟨V, hV⟩ : ∃ V, V = wr5.drew := ⟨_, rfl⟩
      have kv : Below wr5.heap.size wr5 wr5.drew := (Below.refl wr5.heap.size wr5).drew
      rw [← hV]
      rw [← hV] at kv
      clear hV
      have KV := Lib.hid kv
      refine tk 0 (by assumption) rfl (by kernel_rfl) (fun _ _ _ h => h) (tk_load (S := fun V => Below wr5.heap.size wr5 V) 45 (.tmp 2) rfl w.heap.size 0 rfl [.int .u64 m] _ (fun V hV => (HQ.out.2.1.below hV HQ.out.2.1.lt).range) Try.underlying45 (by rfl) (by kernel_rfl)) ?_
      try simp only [Act.put, sqA, sqB, sqC, sqD, sqE, sqF]
      refine tk 1 (by assumption) rfl (by kernel_rfl) (fun _ _ _ h => h) (fun V hV => by go_simp; try with_reducible rfl) ?_
      try simp only [Act.put, sqA, sqB, sqC, sqD, sqE, sqF]
      refine tk 2 (by assumption) rfl (by kernel_rfl) (fun _ _ _ h => h) (fun V hV => by go_simp; try with_reducible rfl) ?_
      try simp only [Act.put, sqA, sqB, sqC, sqD, sqE, sqF]
      refine tk 3 (by assumption) rfl (by kernel_rfl) (fun _ _ _ h => h) (fun V hV => by go_simp; try with_reducible rfl) ?_
      try simp only [Act.put, sqA, sqB, sqC, sqD, sqE, sqF]
      refine tk 4 (by assumption) rfl (by kernel_rfl) (fun _ _ _ h => h) (fun V hV => by have z3 := HE.out V (gNx (Below.refl _ _) hV); go_simp; try with_reducible rfl) ?_
      try simp only [Act.put, sqA, sqB, sqC, sqD, sqE, sqF]
      refine wpAnyH_ready (rs := [5, 10]) (by kernel_rfl) (by simp) ?_
      refine AllReadyH.cons (o := _) rfl (fun K hK => ?_) (AllReadyH.cons (o := _) rfl (fun K hK => ?_) (AllReadyH.nil))
      · go_simp
        refine (HT.out _).mono ?_
        rintro e2 VN ⟨rfl, b3⟩
        have KW := Lib.hid (gNx KV.out b3)
        try (have NB2 := Lib.hid (And.intro (NB.out.1.below b3 NB.out.1.lt) NB.out.2); clear NB; have NB := NB2; clear NB2)
        clear b3
        obtain ⟨V, hV⟩ : ∃ U, U = VN := ⟨_, rfl⟩
        subst hV
        clear KV
        have KV := KW
        clear KW
        have kv := KV.out
        go_wp2_with fail
        refine hK.out _ _ kv (fun hH => ?_)
        clear hK K hH
        try simp only [Act.put, sqA, sqB, sqC, sqD, sqE, sqF]
        refine tk 6 (by assumption) rfl (by kernel_rfl) (fun _ _ _ h => h) (fun V hV => by go_simp; try with_reducible rfl) ?_
        try simp only [Act.put, sqA, sqB, sqC, sqD, sqE, sqF]
        refine tk 7 (by assumption) rfl (by kernel_rfl) (fun _ _ _ h => h) (fun V hV => by go_simp; try with_reducible rfl) ?_
        try simp only [Act.put, sqA, sqB, sqC, sqD, sqE, sqF]
        refine tk 8 (by assumption) rfl (by kernel_rfl) (fun _ _ _ h => h) (fun V hV => by go_simp; try with_reducible rfl) ?_
        try simp only [Act.put, sqA, sqB, sqC, sqD, sqE, sqF]
        refine tk 9 (by assumption) rfl (by kernel_rfl) (fun _ _ _ h => h) (fun V hV => by go_simp; try with_reducible rfl) ?_
        try simp only [Act.put, sqA, sqB, sqC, sqD, sqE, sqF]
        refine wpAnyH_ready (rs := [10]) (by kernel_rfl) (by simp) ?_
        refine AllReadyH.cons (o := _) rfl (fun K hK => ?_) AllReadyH.nil
        go_simp
        obtain ⟨nb, hnb⟩ : ∃ nb, nb = V.heap.size := ⟨_, rfl⟩
        rw [← hnb]
        have KW := Lib.hid (gNx KV.out (gAl V (.cells #[.int .u64 0] 45)))
        have NB : Hid (Cs (V.alloc (.cells #[.int .u64 0] 45)) nb [.int .u64 0] ∧ wr5.heap.size ≤ nb) := Lib.hid (by rw [hnb]; exact ⟨Cs.first V _ _, KV.out.size⟩)
        obtain ⟨VN, hV⟩ : ∃ U, U = V.alloc (.cells #[.int .u64 0] 45) := ⟨_, rfl⟩
        rw [← hV]
        rw [← hV] at KW NB
        clear hV hnb
        obtain ⟨V, hV⟩ : ∃ U, U = VN := ⟨_, rfl⟩
        subst hV
        clear KV
        have KV := KW
        clear KW
        have kv := KV.out
        refine hK.out _ _ kv (fun hH => ?_)
        clear hK K hH
        try simp only [Act.put, sqA, sqB, sqC, sqD, sqE, sqF]
        refine wpAnyH_ready (rs := [11]) (by kernel_rfl) (by simp) ?_
        refine AllReadyH.cons (o := _) rfl (fun K hK => ?_) AllReadyH.nil
        rw [if_pos (by rfl)]
        refine wp_store_mid 45 (.tmp 7) (.tmp 27) rfl nb 0 #[.int .u64 m2] rfl rfl NB.out.1.there (by kernel_rfl) (all_oneCell_toArray (cs := [.int .u64 m2]) (by intro v hv; simp only [List.mem_cons, List.not_mem_nil, or_false] at hv; rcases hv with rfl; rfl)) ?_
        have KW := Lib.hid (below_set nb NB.out.2 [.int .u64 m2] 0 _ KV.out)
        have NS : Hid (Cs (World.setCells _ nb 0 [.int .u64 m2]) nb [.int .u64 m2] ∧ wr5.heap.size ≤ nb) := Lib.hid (And.intro (by rw [set1]; exact NB.out.1.set 0 (.int .u64 m2) (by simp)) NB.out.2)
        clear NB
        rw [show ∀ W : World, W.setCells nb 0 (#[.int .u64 m2] : Array Value).toList = W.setCells nb 0 [.int .u64 m2] from fun _ => rfl]
        refine hK.out _ _ KW.out (fun hH => ?_)
        clear hK K hH
        clear KV
        have KV := KW
        clear KW
        have kv := KV.out
        generalize World.setCells _ nb 0 [.int .u64 m2] = V at *
        try simp only [Act.put, sqA, sqB, sqC, sqD, sqE, sqF]
        refine tk 12 (by assumption) rfl (by kernel_rfl) (fun _ _ _ h => h) (fun V hV => by go_simp; try with_reducible rfl) ?_
        try simp only [Act.put, sqA, sqB, sqC, sqD, sqE, sqF]
        refine tk 13 (by assumption) rfl (by kernel_rfl) (fun _ _ _ h => h) (fun V hV => by go_simp; try with_reducible rfl) ?_
        try simp only [Act.put, sqA, sqB, sqC, sqD, sqE, sqF]
        refine wpAnyH_done (by kernel_rfl) ?_ _
        have HF5 : Hid (Below w.heap.size w V ∧ Cs V w.heap.size [.int .u64 m] ∧ Cs V (w.heap.size + 1) [.int .u64 m] ∧ Cs V nb [.int .u64 m2] ∧ w.heap.size + 1 < nb ∧ Below wr5.heap.size wr5 V) := Lib.hid ⟨gNx HQ.out.1 KV.out, HQ.out.2.1.below KV.out HQ.out.2.1.lt, HQ.out.2.2.below KV.out HQ.out.2.2.lt, NS.out.1, by have := NS.out.2; have := HQ.out.2.2.lt; omega, KV.out⟩
        clear NS KV kv
        obtain ⟨n7, hn7⟩ : ∃ n7, n7 = nb := ⟨_, rfl⟩
        subst hn7
        obtain ⟨wr6, hwr6⟩ : ∃ wr6, wr6 = V := ⟨_, rfl⟩
        subst hwr6
        go_upto_region 6 with fail
        refine wp_region_held_drew (S := fun V => Below wr6.heap.size wr6 V) (by kernel_rfl) (Below.refl wr6.heap.size wr6).drew (fun hH => ?_)
        clear hH
        obtain ⟨V, hV⟩ : ∃ V, V = wr6.drew := ⟨_, rfl⟩
        have kv : Below wr6.heap.size wr6 wr6.drew := (Below.refl wr6.heap.size wr6).drew
        rw [← hV]
        rw [← hV] at kv
        clear hV
        have KV := Lib.hid kv
        refine tk 0 (by assumption) rfl (by kernel_rfl) (fun _ _ _ h => h) (tk_load (S := fun V => Below wr6.heap.size wr6 V) 45 (.tmp 5) rfl (w.heap.size + 1) 0 rfl [.int .u64 m] _ (fun V hV => (HF5.out.2.2.1.below hV HF5.out.2.2.1.lt).range) Try.underlying45 (by rfl) (by kernel_rfl)) ?_
        try simp only [Act.put, sqA, sqB, sqC, sqD, sqE, sqF]
        refine tk 1 (by assumption) rfl (by kernel_rfl) (fun _ _ _ h => h) (fun V hV => by go_simp; try with_reducible rfl) ?_
        try simp only [Act.put, sqA, sqB, sqC, sqD, sqE, sqF]
        refine tk 2 (by assumption) rfl (by kernel_rfl) (fun _ _ _ h => h) (fun V hV => by go_simp; try with_reducible rfl) ?_
        try simp only [Act.put, sqA, sqB, sqC, sqD, sqE, sqF]
        refine tk 3 (by assumption) rfl (by kernel_rfl) (fun _ _ _ h => h) (fun V hV => by go_simp; try with_reducible rfl) ?_
        try simp only [Act.put, sqA, sqB, sqC, sqD, sqE, sqF]
        refine tk 4 (by assumption) rfl (by kernel_rfl) (fun _ _ _ h => h) (fun V hV => by have z3 := HE.out V (gNx HF5.out.2.2.2.2.2 hV); go_simp; try with_reducible rfl) ?_
        try simp only [Act.put, sqA, sqB, sqC, sqD, sqE, sqF]
        refine wpAnyH_ready (rs := [5, 10]) (by kernel_rfl) (by simp) ?_
        refine AllReadyH.cons (o := _) rfl (fun K hK => ?_) (AllReadyH.cons (o := _) rfl (fun K hK => ?_) (AllReadyH.nil))
        · go_simp
          refine (HR.out _).mono ?_
          rintro e2 VN ⟨rfl, b3⟩
          have KW := Lib.hid (gNx KV.out b3)
          try (have NB2 := Lib.hid (And.intro (NB.out.1.below b3 NB.out.1.lt) NB.out.2); clear NB; have NB := NB2; clear NB2)
          clear b3
          obtain ⟨V, hV⟩ : ∃ U, U = VN := ⟨_, rfl⟩
          subst hV
          clear KV
          have KV := KW
          clear KW
          have kv := KV.out
          go_wp2_with fail
          refine hK.out _ _ kv (fun hH => ?_)
          clear hK K hH
          try simp only [Act.put, sqA, sqB, sqC, sqD, sqE, sqF]
          refine tk 6 (by assumption) rfl (by kernel_rfl) (fun _ _ _ h => h) (fun V hV => by go_simp; try with_reducible rfl) ?_
          try simp only [Act.put, sqA, sqB, sqC, sqD, sqE, sqF]
          refine tk 7 (by assumption) rfl (by kernel_rfl) (fun _ _ _ h => h) (fun V hV => by go_simp; try with_reducible rfl) ?_
          try simp only [Act.put, sqA, sqB, sqC, sqD, sqE, sqF]
          refine tk 8 (by assumption) rfl (by kernel_rfl) (fun _ _ _ h => h) (fun V hV => by go_simp; try with_reducible rfl) ?_
          try simp only [Act.put, sqA, sqB, sqC, sqD, sqE, sqF]
          refine tk 9 (by assumption) rfl (by kernel_rfl) (fun _ _ _ h => h) (fun V hV => by go_simp; try with_reducible rfl) ?_
          try simp only [Act.put, sqA, sqB, sqC, sqD, sqE, sqF]
          refine wpAnyH_ready (rs := [10]) (by kernel_rfl) (by simp) ?_
          refine AllReadyH.cons (o := _) rfl (fun K hK => ?_) AllReadyH.nil
          go_simp
          obtain ⟨nb, hnb⟩ : ∃ nb, nb = V.heap.size := ⟨_, rfl⟩
          rw [← hnb]
          have KW := Lib.hid (gNx KV.out (gAl V (.cells #[.int .u64 0] 45)))
          have NB : Hid (Cs (V.alloc (.cells #[.int .u64 0] 45)) nb [.int .u64 0] ∧ wr6.heap.size ≤ nb) := Lib.hid (by rw [hnb]; exact ⟨Cs.first V _ _, KV.out.size⟩)
          obtain ⟨VN, hV⟩ : ∃ U, U = V.alloc (.cells #[.int .u64 0] 45) := ⟨_, rfl⟩
          rw [← hV]
          rw [← hV] at KW NB
          clear hV hnb
          obtain ⟨V, hV⟩ : ∃ U, U = VN := ⟨_, rfl⟩
          subst hV
          clear KV
          have KV := KW
          clear KW
          have kv := KV.out
          refine hK.out _ _ kv (fun hH => ?_)
          clear hK K hH
          try simp only [Act.put, sqA, sqB, sqC, sqD, sqE, sqF]
          refine wpAnyH_ready (rs := [11]) (by kernel_rfl) (by simp) ?_
          refine AllReadyH.cons (o := _) rfl (fun K hK => ?_) AllReadyH.nil
          rw [if_pos (by rfl)]
          refine wp_store_mid 45 (.tmp 10) (.tmp 37) rfl nb 0 #[.int .u64 m2] rfl rfl NB.out.1.there (by kernel_rfl) (all_oneCell_toArray (cs := [.int .u64 m2]) (by intro v hv; simp only [List.mem_cons, List.not_mem_nil, or_false] at hv; rcases hv with rfl; rfl)) ?_
          have KW := Lib.hid (below_set nb NB.out.2 [.int .u64 m2] 0 _ KV.out)
          have NS : Hid (Cs (World.setCells _ nb 0 [.int .u64 m2]) nb [.int .u64 m2] ∧ wr6.heap.size ≤ nb) := Lib.hid (And.intro (by rw [set1]; exact NB.out.1.set 0 (.int .u64 m2) (by simp)) NB.out.2)
          clear NB
          rw [show ∀ W : World, W.setCells nb 0 (#[.int .u64 m2] : Array Value).toList = W.setCells nb 0 [.int .u64 m2] from fun _ => rfl]
          refine hK.out _ _ KW.out (fun hH => ?_)
          clear hK K hH
          clear KV
          have KV := KW
          clear KW
          have kv := KV.out
          generalize World.setCells _ nb 0 [.int .u64 m2] = V at *
          try simp only [Act.put, sqA, sqB, sqC, sqD, sqE, sqF]
          refine tk 12 (by assumption) rfl (by kernel_rfl) (fun _ _ _ h => h) (fun V hV => by go_simp; try with_reducible rfl) ?_
          try simp only [Act.put, sqA, sqB, sqC, sqD, sqE, sqF]
          refine tk 13 (by assumption) rfl (by kernel_rfl) (fun _ _ _ h => h) (fun V hV => by go_simp; try with_reducible rfl) ?_
          try simp only [Act.put, sqA, sqB, sqC, sqD, sqE, sqF]
          refine wpAnyH_done (by kernel_rfl) ?_ _
          have HF : Hid (Below w.heap.size w V ∧ Cs V w.heap.size [.int .u64 m] ∧ Cs V (w.heap.size + 1) [.int .u64 m] ∧ Cs V n7 [.int .u64 m2] ∧ Cs V nb [.int .u64 m2] ∧ w.heap.size + 1 < n7 ∧ w.heap.size + 1 < nb) := Lib.hid ⟨gNx HF5.out.1 KV.out, HF5.out.2.1.below KV.out HF5.out.2.1.lt, HF5.out.2.2.1.below KV.out HF5.out.2.2.1.lt, HF5.out.2.2.2.1.below KV.out HF5.out.2.2.2.1.lt, NS.out.1, HF5.out.2.2.2.2.1, by have := NS.out.2; have := HF5.out.2.2.1.lt; omega⟩
          clear NS KV kv
          obtain ⟨n10, hn10⟩ : ∃ n10, n10 = nb := ⟨_, rfl⟩
          subst hn10
          have c7 : V.cell? ⟨n7, 0, none⟩ = some (.int .u64 m2) := HF.out.2.2.2.1.range 0 _ rfl
          have c10 : V.cell? ⟨n10, 0, none⟩ = some (.int .u64 m2) := HF.out.2.2.2.2.1.range 0 _ rfl
          go_upto_region 9 with fail
          clear c7 c10
          refine wp_region_held_drew (S := fun V => V.rangeAt n7 0 [.int .u64 m2] ∧ V.rangeAt n10 0 [.int .u64 m2]) (by kernel_rfl) ⟨(World.rangeAt_drew V _ _ _).2 HF.out.2.2.2.1.range, (World.rangeAt_drew V _ _ _).2 HF.out.2.2.2.2.1.range⟩ (fun hH => ?_)
          clear hH
          have HG : Hid (Below w.heap.size w V.drew ∧ Cs V.drew w.heap.size [.int .u64 m] ∧ Cs V.drew (w.heap.size + 1) [.int .u64 m] ∧ Cs V.drew n7 [.int .u64 m2] ∧ Cs V.drew n10 [.int .u64 m2] ∧ w.heap.size + 1 < n7 ∧ w.heap.size + 1 < n10) := Lib.hid (by have hd : Below V.heap.size V V.drew := (Below.refl _ _).drew; exact ⟨HF.out.1.drew, HF.out.2.1.below hd HF.out.2.1.lt, HF.out.2.2.1.below hd HF.out.2.2.1.lt, HF.out.2.2.2.1.below hd HF.out.2.2.2.1.lt, HF.out.2.2.2.2.1.below hd HF.out.2.2.2.2.1.lt, HF.out.2.2.2.2.2⟩)
          have hs0 : V.drew.rangeAt n7 0 [.int .u64 m2] ∧ V.drew.rangeAt n10 0 [.int .u64 m2] := ⟨HG.out.2.2.2.1.range, HG.out.2.2.2.2.1.range⟩
          clear HF
          generalize V.drew = X0 at *
          refine tk 0 (by assumption) rfl (by kernel_rfl) (fun _ _ _ h => h) (tk_load (S := fun V => V.rangeAt n7 0 [.int .u64 m2] ∧ V.rangeAt n10 0 [.int .u64 m2]) 45 (.tmp 7) rfl n7 0 rfl [.int .u64 m2] _ (fun V hV => hV.1) Try.underlying45 (by rfl) (by kernel_rfl)) ?_
          try simp only [Act.put, sqA, sqB, sqC, sqD, sqE, sqF]
          refine tk 1 (by assumption) rfl (by kernel_rfl) (fun _ _ _ h => h) (tk_load (S := fun V => V.rangeAt n7 0 [.int .u64 m2] ∧ V.rangeAt n10 0 [.int .u64 m2]) 45 (.tmp 10) rfl n10 0 rfl [.int .u64 m2] _ (fun V hV => hV.2) Try.underlying45 (by rfl) (by kernel_rfl)) ?_
          try simp only [Act.put, sqA, sqB, sqC, sqD, sqE, sqF]
          refine wpAnyH_ready (rs := [2]) (by kernel_rfl) (by simp) ?_
          refine AllReadyH.cons (o := _) rfl (fun K hK => ?_) AllReadyH.nil
          rw [if_pos (by rfl)]
          refine wp_store_mid 45 (.tmp 2) (.tmp 55) rfl w.heap.size 0 #[.int .u64 m2] rfl rfl HG.out.2.1.there (by kernel_rfl) (all_oneCell_toArray (cs := [.int .u64 m2]) (by intro v hv; simp only [List.mem_cons, List.not_mem_nil, or_false] at hv; rcases hv with rfl; rfl)) ?_
          obtain ⟨X1, hV9⟩ : ∃ V9, V9 = X0.setCell ⟨w.heap.size, 0, none⟩ (.int .u64 m2) := ⟨_, rfl⟩
          rw [show X0.setCells (w.heap.size) 0 (#[.int .u64 m2] : Array Value).toList = X1 from (set1 _ _ _).trans hV9.symm]
          have HG2 : Hid (Below w.heap.size w X1 ∧ Cs X1 w.heap.size [.int .u64 m2] ∧ Cs X1 (w.heap.size + 1) [.int .u64 m] ∧ Cs X1 n7 [.int .u64 m2] ∧ Cs X1 n10 [.int .u64 m2] ∧ w.heap.size + 1 < n7 ∧ w.heap.size + 1 < n10) := Lib.hid (by rw [hV9]; have h7 := HG.out.2.2.2.2.2.1; have h8 := HG.out.2.2.2.2.2.2; exact ⟨set_below _ HG.out.1 (Nat.le_refl _), HG.out.2.1.set 0 (.int .u64 m2) (by simp), HG.out.2.2.1.other (by omega) _, HG.out.2.2.2.1.other (by omega) _, HG.out.2.2.2.2.1.other (by omega) _, h7, h8⟩)
          clear hV9 HG hs0
          have hs0 : X1.rangeAt n7 0 [.int .u64 m2] ∧ X1.rangeAt n10 0 [.int .u64 m2] := ⟨HG2.out.2.2.2.1.range, HG2.out.2.2.2.2.1.range⟩
          refine hK.out _ _ hs0 (fun hH => ?_)
          clear hK K hH
          try simp only [Act.put, sqA, sqB, sqC, sqD, sqE, sqF]
          refine wpAnyH_ready (rs := [3]) (by kernel_rfl) (by simp) ?_
          refine AllReadyH.cons (o := _) rfl (fun K hK => ?_) AllReadyH.nil
          rw [if_pos (by rfl)]
          refine wp_store_mid 45 (.tmp 5) (.tmp 56) rfl (w.heap.size + 1) 0 #[.int .u64 m2] rfl rfl HG2.out.2.2.1.there (by kernel_rfl) (all_oneCell_toArray (cs := [.int .u64 m2]) (by intro v hv; simp only [List.mem_cons, List.not_mem_nil, or_false] at hv; rcases hv with rfl; rfl)) ?_
          obtain ⟨X2, hV9⟩ : ∃ V9, V9 = X1.setCell ⟨(w.heap.size + 1), 0, none⟩ (.int .u64 m2) := ⟨_, rfl⟩
          rw [show X1.setCells ((w.heap.size + 1)) 0 (#[.int .u64 m2] : Array Value).toList = X2 from (set1 _ _ _).trans hV9.symm]
          have HG3 : Hid (Below w.heap.size w X2 ∧ Cs X2 w.heap.size [.int .u64 m2] ∧ Cs X2 (w.heap.size + 1) [.int .u64 m2]) := Lib.hid (by rw [hV9]; exact ⟨set_below _ HG2.out.1 (Nat.le_succ _), HG2.out.2.1.other (by omega) _, HG2.out.2.2.1.set 0 (.int .u64 m2) (by simp)⟩)
          have hs9 : X2.rangeAt n7 0 [.int .u64 m2] ∧ X2.rangeAt n10 0 [.int .u64 m2] := by rw [hV9]; have h7 := HG2.out.2.2.2.2.2.1; have h8 := HG2.out.2.2.2.2.2.2; exact ⟨(HG2.out.2.2.2.1.other (by omega) _).range, (HG2.out.2.2.2.2.1.other (by omega) _).range⟩
          clear hV9 HG2 hs0
          refine hK.out _ _ hs9 (fun hH => ?_)
          clear hK K hH
          try simp only [Act.put, sqA, sqB, sqC, sqD, sqE, sqF]
          refine wpAnyH_done (by kernel_rfl) ?_ _
          clear hs9
          go_wp2_with fail
          exact ⟨⟨k + 1, m2, congrArg (Value.int .i64) (by omega), hlt, HM2.out, HG3.out⟩, by show ns.length - ((k : Int) + 1).toNat < ns.length - (k : Int).toNat; omega⟩
        · go_simp
          obtain ⟨nb, hnb⟩ : ∃ nb, nb = V.heap.size := ⟨_, rfl⟩
          rw [← hnb]
          have KW := Lib.hid (gNx KV.out (gAl V (.cells #[.int .u64 0] 45)))
          have NB : Hid (Cs (V.alloc (.cells #[.int .u64 0] 45)) nb [.int .u64 0] ∧ wr6.heap.size ≤ nb) := Lib.hid (by rw [hnb]; exact ⟨Cs.first V _ _, KV.out.size⟩)
          obtain ⟨VN, hV⟩ : ∃ U, U = V.alloc (.cells #[.int .u64 0] 45) := ⟨_, rfl⟩
          rw [← hV]
          rw [← hV] at KW NB
          clear hV hnb
          obtain ⟨V, hV⟩ : ∃ U, U = VN := ⟨_, rfl⟩
          subst hV
          clear KV
          have KV := KW
          clear KW
          have kv := KV.out
          refine hK.out _ _ kv (fun hH => ?_)
          clear hK K hH
          try simp only [Act.put, sqA, sqB, sqC, sqD, sqE, sqF]
          refine wpAnyH_ready (rs := [5]) (by kernel_rfl) (by simp) ?_
          refine AllReadyH.cons (o := _) rfl (fun K hK => ?_) AllReadyH.nil
          go_simp
          refine (HR.out _).mono ?_
          rintro e2 VN ⟨rfl, b3⟩
          have KW := Lib.hid (gNx KV.out b3)
          try (have NB2 := Lib.hid (And.intro (NB.out.1.below b3 NB.out.1.lt) NB.out.2); clear NB; have NB := NB2; clear NB2)
          clear b3
          obtain ⟨V, hV⟩ : ∃ U, U = VN := ⟨_, rfl⟩
          subst hV
          clear KV
          have KV := KW
          clear KW
          have kv := KV.out
          go_wp2_with fail
          refine hK.out _ _ kv (fun hH => ?_)
          clear hK K hH
          try simp only [Act.put, sqA, sqB, sqC, sqD, sqE, sqF]
          refine tk 6 (by assumption) rfl (by kernel_rfl) (fun _ _ _ h => h) (fun V hV => by go_simp; try with_reducible rfl) ?_
          try simp only [Act.put, sqA, sqB, sqC, sqD, sqE, sqF]
          refine tk 7 (by assumption) rfl (by kernel_rfl) (fun _ _ _ h => h) (fun V hV => by go_simp; try with_reducible rfl) ?_
          try simp only [Act.put, sqA, sqB, sqC, sqD, sqE, sqF]
          refine tk 8 (by assumption) rfl (by kernel_rfl) (fun _ _ _ h => h) (fun V hV => by go_simp; try with_reducible rfl) ?_
          try simp only [Act.put, sqA, sqB, sqC, sqD, sqE, sqF]
          refine tk 9 (by assumption) rfl (by kernel_rfl) (fun _ _ _ h => h) (fun V hV => by go_simp; try with_reducible rfl) ?_
          try simp only [Act.put, sqA, sqB, sqC, sqD, sqE, sqF]
          refine wpAnyH_ready (rs := [11]) (by kernel_rfl) (by simp) ?_
          refine AllReadyH.cons (o := _) rfl (fun K hK => ?_) AllReadyH.nil
          rw [if_pos (by rfl)]
          refine wp_store_mid 45 (.tmp 10) (.tmp 37) rfl nb 0 #[.int .u64 m2] rfl rfl NB.out.1.there (by kernel_rfl) (all_oneCell_toArray (cs := [.int .u64 m2]) (by intro v hv; simp only [List.mem_cons, List.not_mem_nil, or_false] at hv; rcases hv with rfl; rfl)) ?_
          have KW := Lib.hid (below_set nb NB.out.2 [.int .u64 m2] 0 _ KV.out)
          have NS : Hid (Cs (World.setCells _ nb 0 [.int .u64 m2]) nb [.int .u64 m2] ∧ wr6.heap.size ≤ nb) := Lib.hid (And.intro (by rw [set1]; exact NB.out.1.set 0 (.int .u64 m2) (by simp)) NB.out.2)
          clear NB
          rw [show ∀ W : World, W.setCells nb 0 (#[.int .u64 m2] : Array Value).toList = W.setCells nb 0 [.int .u64 m2] from fun _ => rfl]
          refine hK.out _ _ KW.out (fun hH => ?_)
          clear hK K hH
          clear KV
          have KV := KW
          clear KW
          have kv := KV.out
          generalize World.setCells _ nb 0 [.int .u64 m2] = V at *
          try simp only [Act.put, sqA, sqB, sqC, sqD, sqE, sqF]
          refine tk 12 (by assumption) rfl (by kernel_rfl) (fun _ _ _ h => h) (fun V hV => by go_simp; try with_reducible rfl) ?_
          try simp only [Act.put, sqA, sqB, sqC, sqD, sqE, sqF]
          refine tk 13 (by assumption) rfl (by kernel_rfl) (fun _ _ _ h => h) (fun V hV => by go_simp; try with_reducible rfl) ?_
          try simp only [Act.put, sqA, sqB, sqC, sqD, sqE, sqF]
          refine wpAnyH_done (by kernel_rfl) ?_ _
          have HF : Hid (Below w.heap.size w V ∧ Cs V w.heap.size [.int .u64 m] ∧ Cs V (w.heap.size + 1) [.int .u64 m] ∧ Cs V n7 [.int .u64 m2] ∧ Cs V nb [.int .u64 m2] ∧ w.heap.size + 1 < n7 ∧ w.heap.size + 1 < nb) := Lib.hid ⟨gNx HF5.out.1 KV.out, HF5.out.2.1.below KV.out HF5.out.2.1.lt, HF5.out.2.2.1.below KV.out HF5.out.2.2.1.lt, HF5.out.2.2.2.1.below KV.out HF5.out.2.2.2.1.lt, NS.out.1, HF5.out.2.2.2.2.1, by have := NS.out.2; have := HF5.out.2.2.1.lt; omega⟩
          clear NS KV kv
          obtain ⟨n10, hn10⟩ : ∃ n10, n10 = nb := ⟨_, rfl⟩
          subst hn10
          have c7 : V.cell? ⟨n7, 0, none⟩ = some (.int .u64 m2) := HF.out.2.2.2.1.range 0 _ rfl
          have c10 : V.cell? ⟨n10, 0, none⟩ = some (.int .u64 m2) := HF.out.2.2.2.2.1.range 0 _ rfl
          go_upto_region 9 with fail
          clear c7 c10
          refine wp_region_held_drew (S := fun V => V.rangeAt n7 0 [.int .u64 m2] ∧ V.rangeAt n10 0 [.int .u64 m2]) (by kernel_rfl) ⟨(World.rangeAt_drew V _ _ _).2 HF.out.2.2.2.1.range, (World.rangeAt_drew V _ _ _).2 HF.out.2.2.2.2.1.range⟩ (fun hH => ?_)
          clear hH
          have HG : Hid (Below w.heap.size w V.drew ∧ Cs V.drew w.heap.size [.int .u64 m] ∧ Cs V.drew (w.heap.size + 1) [.int .u64 m] ∧ Cs V.drew n7 [.int .u64 m2] ∧ Cs V.drew n10 [.int .u64 m2] ∧ w.heap.size + 1 < n7 ∧ w.heap.size + 1 < n10) := Lib.hid (by have hd : Below V.heap.size V V.drew := (Below.refl _ _).drew; exact ⟨HF.out.1.drew, HF.out.2.1.below hd HF.out.2.1.lt, HF.out.2.2.1.below hd HF.out.2.2.1.lt, HF.out.2.2.2.1.below hd HF.out.2.2.2.1.lt, HF.out.2.2.2.2.1.below hd HF.out.2.2.2.2.1.lt, HF.out.2.2.2.2.2⟩)
          have hs0 : V.drew.rangeAt n7 0 [.int .u64 m2] ∧ V.drew.rangeAt n10 0 [.int .u64 m2] := ⟨HG.out.2.2.2.1.range, HG.out.2.2.2.2.1.range⟩
          clear HF
          generalize V.drew = X0 at *
          refine tk 0 (by assumption) rfl (by kernel_rfl) (fun _ _ _ h => h) (tk_load (S := fun V => V.rangeAt n7 0 [.int .u64 m2] ∧ V.rangeAt n10 0 [.int .u64 m2]) 45 (.tmp 7) rfl n7 0 rfl [.int .u64 m2] _ (fun V hV => hV.1) Try.underlying45 (by rfl) (by kernel_rfl)) ?_
          try simp only [Act.put, sqA, sqB, sqC, sqD, sqE, sqF]
          refine tk 1 (by assumption) rfl (by kernel_rfl) (fun _ _ _ h => h) (tk_load (S := fun V => V.rangeAt n7 0 [.int .u64 m2] ∧ V.rangeAt n10 0 [.int .u64 m2]) 45 (.tmp 10) rfl n10 0 rfl [.int .u64 m2] _ (fun V hV => hV.2) Try.underlying45 (by rfl) (by kernel_rfl)) ?_
          try simp only [Act.put, sqA, sqB, sqC, sqD, sqE, sqF]
          refine wpAnyH_ready (rs := [2]) (by kernel_rfl) (by simp) ?_
          refine AllReadyH.cons (o := _) rfl (fun K hK => ?_) AllReadyH.nil
          rw [if_pos (by rfl)]
          refine wp_store_mid 45 (.tmp 2) (.tmp 55) rfl w.heap.size 0 #[.int .u64 m2] rfl rfl HG.out.2.1.there (by kernel_rfl) (all_oneCell_toArray (cs := [.int .u64 m2]) (by intro v hv; simp only [List.mem_cons, List.not_mem_nil, or_false] at hv; rcases hv with rfl; rfl)) ?_
          obtain ⟨X1, hV9⟩ : ∃ V9, V9 = X0.setCell ⟨w.heap.size, 0, none⟩ (.int .u64 m2) := ⟨_, rfl⟩
          rw [show X0.setCells (w.heap.size) 0 (#[.int .u64 m2] : Array Value).toList = X1 from (set1 _ _ _).trans hV9.symm]
          have HG2 : Hid (Below w.heap.size w X1 ∧ Cs X1 w.heap.size [.int .u64 m2] ∧ Cs X1 (w.heap.size + 1) [.int .u64 m] ∧ Cs X1 n7 [.int .u64 m2] ∧ Cs X1 n10 [.int .u64 m2] ∧ w.heap.size + 1 < n7 ∧ w.heap.size + 1 < n10) := Lib.hid (by rw [hV9]; have h7 := HG.out.2.2.2.2.2.1; have h8 := HG.out.2.2.2.2.2.2; exact ⟨set_below _ HG.out.1 (Nat.le_refl _), HG.out.2.1.set 0 (.int .u64 m2) (by simp), HG.out.2.2.1.other (by omega) _, HG.out.2.2.2.1.other (by omega) _, HG.out.2.2.2.2.1.other (by omega) _, h7, h8⟩)
          clear hV9 HG hs0
          have hs0 : X1.rangeAt n7 0 [.int .u64 m2] ∧ X1.rangeAt n10 0 [.int .u64 m2] := ⟨HG2.out.2.2.2.1.range, HG2.out.2.2.2.2.1.range⟩
          refine hK.out _ _ hs0 (fun hH => ?_)
          clear hK K hH
          try simp only [Act.put, sqA, sqB, sqC, sqD, sqE, sqF]
          refine wpAnyH_ready (rs := [3]) (by kernel_rfl) (by simp) ?_
          refine AllReadyH.cons (o := _) rfl (fun K hK => ?_) AllReadyH.nil
          rw [if_pos (by rfl)]
          refine wp_store_mid 45 (.tmp 5) (.tmp 56) rfl (w.heap.size + 1) 0 #[.int .u64 m2] rfl rfl HG2.out.2.2.1.there (by kernel_rfl) (all_oneCell_toArray (cs := [.int .u64 m2]) (by intro v hv; simp only [List.mem_cons, List.not_mem_nil, or_false] at hv; rcases hv with rfl; rfl)) ?_
          obtain ⟨X2, hV9⟩ : ∃ V9, V9 = X1.setCell ⟨(w.heap.size + 1), 0, none⟩ (.int .u64 m2) := ⟨_, rfl⟩
          rw [show X1.setCells ((w.heap.size + 1)) 0 (#[.int .u64 m2] : Array Value).toList = X2 from (set1 _ _ _).trans hV9.symm]
          have HG3 : Hid (Below w.heap.size w X2 ∧ Cs X2 w.heap.size [.int .u64 m2] ∧ Cs X2 (w.heap.size + 1) [.int .u64 m2]) := Lib.hid (by rw [hV9]; exact ⟨set_below _ HG2.out.1 (Nat.le_succ _), HG2.out.2.1.other (by omega) _, HG2.out.2.2.1.set 0 (.int .u64 m2) (by simp)⟩)
          have hs9 : X2.rangeAt n7 0 [.int .u64 m2] ∧ X2.rangeAt n10 0 [.int .u64 m2] := by rw [hV9]; have h7 := HG2.out.2.2.2.2.2.1; have h8 := HG2.out.2.2.2.2.2.2; exact ⟨(HG2.out.2.2.2.1.other (by omega) _).range, (HG2.out.2.2.2.2.1.other (by omega) _).range⟩
          clear hV9 HG2 hs0
          refine hK.out _ _ hs9 (fun hH => ?_)
          clear hK K hH
          try simp only [Act.put, sqA, sqB, sqC, sqD, sqE, sqF]
          refine wpAnyH_done (by kernel_rfl) ?_ _
          clear hs9
          go_wp2_with fail
          exact ⟨⟨k + 1, m2, congrArg (Value.int .i64) (by omega), hlt, HM2.out, HG3.out⟩, by show ns.length - ((k : Int) + 1).toNat < ns.length - (k : Int).toNat; omega⟩
      · go_simp
        obtain ⟨nb, hnb⟩ : ∃ nb, nb = V.heap.size := ⟨_, rfl⟩
        rw [← hnb]
        have KW := Lib.hid (gNx KV.out (gAl V (.cells #[.int .u64 0] 45)))
        have NB : Hid (Cs (V.alloc (.cells #[.int .u64 0] 45)) nb [.int .u64 0] ∧ wr5.heap.size ≤ nb) := Lib.hid (by rw [hnb]; exact ⟨Cs.first V _ _, KV.out.size⟩)
        obtain ⟨VN, hV⟩ : ∃ U, U = V.alloc (.cells #[.int .u64 0] 45) := ⟨_, rfl⟩
        rw [← hV]
        rw [← hV] at KW NB
        clear hV hnb
        obtain ⟨V, hV⟩ : ∃ U, U = VN := ⟨_, rfl⟩
        subst hV
        clear KV
        have KV := KW
        clear KW
        have kv := KV.out
        refine hK.out _ _ kv (fun hH => ?_)
        clear hK K hH
        try simp only [Act.put, sqA, sqB, sqC, sqD, sqE, sqF]
        refine wpAnyH_ready (rs := [5]) (by kernel_rfl) (by simp) ?_
        refine AllReadyH.cons (o := _) rfl (fun K hK => ?_) AllReadyH.nil
        go_simp
        refine (HT.out _).mono ?_
        rintro e2 VN ⟨rfl, b3⟩
        have KW := Lib.hid (gNx KV.out b3)
        try (have NB2 := Lib.hid (And.intro (NB.out.1.below b3 NB.out.1.lt) NB.out.2); clear NB; have NB := NB2; clear NB2)
        clear b3
        obtain ⟨V, hV⟩ : ∃ U, U = VN := ⟨_, rfl⟩
        subst hV
        clear KV
        have KV := KW
        clear KW
        have kv := KV.out
        go_wp2_with fail
        refine hK.out _ _ kv (fun hH => ?_)
        clear hK K hH
        try simp only [Act.put, sqA, sqB, sqC, sqD, sqE, sqF]
        refine tk 6 (by assumption) rfl (by kernel_rfl) (fun _ _ _ h => h) (fun V hV => by go_simp; try with_reducible rfl) ?_
        try simp only [Act.put, sqA, sqB, sqC, sqD, sqE, sqF]
        refine tk 7 (by assumption) rfl (by kernel_rfl) (fun _ _ _ h => h) (fun V hV => by go_simp; try with_reducible rfl) ?_
        try simp only [Act.put, sqA, sqB, sqC, sqD, sqE, sqF]
        refine tk 8 (by assumption) rfl (by kernel_rfl) (fun _ _ _ h => h) (fun V hV => by go_simp; try with_reducible rfl) ?_
        try simp only [Act.put, sqA, sqB, sqC, sqD, sqE, sqF]
        refine tk 9 (by assumption) rfl (by kernel_rfl) (fun _ _ _ h => h) (fun V hV => by go_simp; try with_reducible rfl) ?_
        try simp only [Act.put, sqA, sqB, sqC, sqD, sqE, sqF]
        refine wpAnyH_ready (rs := [11]) (by kernel_rfl) (by simp) ?_
        refine AllReadyH.cons (o := _) rfl (fun K hK => ?_) AllReadyH.nil
        rw [if_pos (by rfl)]
        refine wp_store_mid 45 (.tmp 7) (.tmp 27) rfl nb 0 #[.int .u64 m2] rfl rfl NB.out.1.there (by kernel_rfl) (all_oneCell_toArray (cs := [.int .u64 m2]) (by intro v hv; simp only [List.mem_cons, List.not_mem_nil, or_false] at hv; rcases hv with rfl; rfl)) ?_
        have KW := Lib.hid (below_set nb NB.out.2 [.int .u64 m2] 0 _ KV.out)
        have NS : Hid (Cs (World.setCells _ nb 0 [.int .u64 m2]) nb [.int .u64 m2] ∧ wr5.heap.size ≤ nb) := Lib.hid (And.intro (by rw [set1]; exact NB.out.1.set 0 (.int .u64 m2) (by simp)) NB.out.2)
        clear NB
        rw [show ∀ W : World, W.setCells nb 0 (#[.int .u64 m2] : Array Value).toList = W.setCells nb 0 [.int .u64 m2] from fun _ => rfl]
        refine hK.out _ _ KW.out (fun hH => ?_)
        clear hK K hH
        clear KV
        have KV := KW
        clear KW
        have kv := KV.out
        generalize World.setCells _ nb 0 [.int .u64 m2] = V at *
        try simp only [Act.put, sqA, sqB, sqC, sqD, sqE, sqF]
        refine tk 12 (by assumption) rfl (by kernel_rfl) (fun _ _ _ h => h) (fun V hV => by go_simp; try with_reducible rfl) ?_
        try simp only [Act.put, sqA, sqB, sqC, sqD, sqE, sqF]
        refine tk 13 (by assumption) rfl (by kernel_rfl) (fun _ _ _ h => h) (fun V hV => by go_simp; try with_reducible rfl) ?_
        try simp only [Act.put, sqA, sqB, sqC, sqD, sqE, sqF]
        refine wpAnyH_done (by kernel_rfl) ?_ _
        have HF5 : Hid (Below w.heap.size w V ∧ Cs V w.heap.size [.int .u64 m] ∧ Cs V (w.heap.size + 1) [.int .u64 m] ∧ Cs V nb [.int .u64 m2] ∧ w.heap.size + 1 < nb ∧ Below wr5.heap.size wr5 V) := Lib.hid ⟨gNx HQ.out.1 KV.out, HQ.out.2.1.below KV.out HQ.out.2.1.lt, HQ.out.2.2.below KV.out HQ.out.2.2.lt, NS.out.1, by have := NS.out.2; have := HQ.out.2.2.lt; omega, KV.out⟩
        clear NS KV kv
        obtain ⟨n7, hn7⟩ : ∃ n7, n7 = nb := ⟨_, rfl⟩
        subst hn7
        obtain ⟨wr6, hwr6⟩ : ∃ wr6, wr6 = V := ⟨_, rfl⟩
        subst hwr6
        go_upto_region 6 with fail
        refine wp_region_held_drew (S := fun V => Below wr6.heap.size wr6 V) (by kernel_rfl) (Below.refl wr6.heap.size wr6).drew (fun hH => ?_)
        clear hH
        obtain ⟨V, hV⟩ : ∃ V, V = wr6.drew := ⟨_, rfl⟩
        have kv : Below wr6.heap.size wr6 wr6.drew := (Below.refl wr6.heap.size wr6).drew
        rw [← hV]
        rw [← hV] at kv
        clear hV
        have KV := Lib.hid kv
        refine tk 0 (by assumption) rfl (by kernel_rfl) (fun _ _ _ h => h) (tk_load (S := fun V => Below wr6.heap.size wr6 V) 45 (.tmp 5) rfl (w.heap.size + 1) 0 rfl [.int .u64 m] _ (fun V hV => (HF5.out.2.2.1.below hV HF5.out.2.2.1.lt).range) Try.underlying45 (by rfl) (by kernel_rfl)) ?_
        try simp only [Act.put, sqA, sqB, sqC, sqD, sqE, sqF]
        refine tk 1 (by assumption) rfl (by kernel_rfl) (fun _ _ _ h => h) (fun V hV => by go_simp; try with_reducible rfl) ?_
        try simp only [Act.put, sqA, sqB, sqC, sqD, sqE, sqF]
        refine tk 2 (by assumption) rfl (by kernel_rfl) (fun _ _ _ h => h) (fun V hV => by go_simp; try with_reducible rfl) ?_
        try simp only [Act.put, sqA, sqB, sqC, sqD, sqE, sqF]
        refine tk 3 (by assumption) rfl (by kernel_rfl) (fun _ _ _ h => h) (fun V hV => by go_simp; try with_reducible rfl) ?_
        try simp only [Act.put, sqA, sqB, sqC, sqD, sqE, sqF]
        refine tk 4 (by assumption) rfl (by kernel_rfl) (fun _ _ _ h => h) (fun V hV => by have z3 := HE.out V (gNx HF5.out.2.2.2.2.2 hV); go_simp; try with_reducible rfl) ?_
        try simp only [Act.put, sqA, sqB, sqC, sqD, sqE, sqF]
        refine wpAnyH_ready (rs := [5, 10]) (by kernel_rfl) (by simp) ?_
        refine AllReadyH.cons (o := _) rfl (fun K hK => ?_) (AllReadyH.cons (o := _) rfl (fun K hK => ?_) (AllReadyH.nil))
        · go_simp
          refine (HR.out _).mono ?_
          rintro e2 VN ⟨rfl, b3⟩
          have KW := Lib.hid (gNx KV.out b3)
          try (have NB2 := Lib.hid (And.intro (NB.out.1.below b3 NB.out.1.lt) NB.out.2); clear NB; have NB := NB2; clear NB2)
          clear b3
          obtain ⟨V, hV⟩ : ∃ U, U = VN := ⟨_, rfl⟩
          subst hV
          clear KV
          have KV := KW
          clear KW
          have kv := KV.out
          go_wp2_with fail
          refine hK.out _ _ kv (fun hH => ?_)
          clear hK K hH
          try simp only [Act.put, sqA, sqB, sqC, sqD, sqE, sqF]
          refine tk 6 (by assumption) rfl (by kernel_rfl) (fun _ _ _ h => h) (fun V hV => by go_simp; try with_reducible rfl) ?_
          try simp only [Act.put, sqA, sqB, sqC, sqD, sqE, sqF]
          refine tk 7 (by assumption) rfl (by kernel_rfl) (fun _ _ _ h => h) (fun V hV => by go_simp; try with_reducible rfl) ?_
          try simp only [Act.put, sqA, sqB, sqC, sqD, sqE, sqF]
          refine tk 8 (by assumption) rfl (by kernel_rfl) (fun _ _ _ h => h) (fun V hV => by go_simp; try with_reducible rfl) ?_
          try simp only [Act.put, sqA, sqB, sqC, sqD, sqE, sqF]
          refine tk 9 (by assumption) rfl (by kernel_rfl) (fun _ _ _ h => h) (fun V hV => by go_simp; try with_reducible rfl) ?_
          try simp only [Act.put, sqA, sqB, sqC, sqD, sqE, sqF]
          refine wpAnyH_ready (rs := [10]) (by kernel_rfl) (by simp) ?_
          refine AllReadyH.cons (o := _) rfl (fun K hK => ?_) AllReadyH.nil
          go_simp
          obtain ⟨nb, hnb⟩ : ∃ nb, nb = V.heap.size := ⟨_, rfl⟩
          rw [← hnb]
          have KW := Lib.hid (gNx KV.out (gAl V (.cells #[.int .u64 0] 45)))
          have NB : Hid (Cs (V.alloc (.cells #[.int .u64 0] 45)) nb [.int .u64 0] ∧ wr6.heap.size ≤ nb) := Lib.hid (by rw [hnb]; exact ⟨Cs.first V _ _, KV.out.size⟩)
          obtain ⟨VN, hV⟩ : ∃ U, U = V.alloc (.cells #[.int .u64 0] 45) := ⟨_, rfl⟩
          rw [← hV]
          rw [← hV] at KW NB
          clear hV hnb
          obtain ⟨V, hV⟩ : ∃ U, U = VN := ⟨_, rfl⟩
          subst hV
          clear KV
          have KV := KW
          clear KW
          have kv := KV.out
          refine hK.out _ _ kv (fun hH => ?_)
          clear hK K hH
          try simp only [Act.put, sqA, sqB, sqC, sqD, sqE, sqF]
          refine wpAnyH_ready (rs := [11]) (by kernel_rfl) (by simp) ?_
          refine AllReadyH.cons (o := _) rfl (fun K hK => ?_) AllReadyH.nil
          rw [if_pos (by rfl)]
          refine wp_store_mid 45 (.tmp 10) (.tmp 37) rfl nb 0 #[.int .u64 m2] rfl rfl NB.out.1.there (by kernel_rfl) (all_oneCell_toArray (cs := [.int .u64 m2]) (by intro v hv; simp only [List.mem_cons, List.not_mem_nil, or_false] at hv; rcases hv with rfl; rfl)) ?_
          have KW := Lib.hid (below_set nb NB.out.2 [.int .u64 m2] 0 _ KV.out)
          have NS : Hid (Cs (World.setCells _ nb 0 [.int .u64 m2]) nb [.int .u64 m2] ∧ wr6.heap.size ≤ nb) := Lib.hid (And.intro (by rw [set1]; exact NB.out.1.set 0 (.int .u64 m2) (by simp)) NB.out.2)
          clear NB
          rw [show ∀ W : World, W.setCells nb 0 (#[.int .u64 m2] : Array Value).toList = W.setCells nb 0 [.int .u64 m2] from fun _ => rfl]
          refine hK.out _ _ KW.out (fun hH => ?_)
          clear hK K hH
          clear KV
          have KV := KW
          clear KW
          have kv := KV.out
          generalize World.setCells _ nb 0 [.int .u64 m2] = V at *
          try simp only [Act.put, sqA, sqB, sqC, sqD, sqE, sqF]
          refine tk 12 (by assumption) rfl (by kernel_rfl) (fun _ _ _ h => h) (fun V hV => by go_simp; try with_reducible rfl) ?_
          try simp only [Act.put, sqA, sqB, sqC, sqD, sqE, sqF]
          refine tk 13 (by assumption) rfl (by kernel_rfl) (fun _ _ _ h => h) (fun V hV => by go_simp; try with_reducible rfl) ?_
          try simp only [Act.put, sqA, sqB, sqC, sqD, sqE, sqF]
          refine wpAnyH_done (by kernel_rfl) ?_ _
          have HF : Hid (Below w.heap.size w V ∧ Cs V w.heap.size [.int .u64 m] ∧ Cs V (w.heap.size + 1) [.int .u64 m] ∧ Cs V n7 [.int .u64 m2] ∧ Cs V nb [.int .u64 m2] ∧ w.heap.size + 1 < n7 ∧ w.heap.size + 1 < nb) := Lib.hid ⟨gNx HF5.out.1 KV.out, HF5.out.2.1.below KV.out HF5.out.2.1.lt, HF5.out.2.2.1.below KV.out HF5.out.2.2.1.lt, HF5.out.2.2.2.1.below KV.out HF5.out.2.2.2.1.lt, NS.out.1, HF5.out.2.2.2.2.1, by have := NS.out.2; have := HF5.out.2.2.1.lt; omega⟩
          clear NS KV kv
          obtain ⟨n10, hn10⟩ : ∃ n10, n10 = nb := ⟨_, rfl⟩
          subst hn10
          have c7 : V.cell? ⟨n7, 0, none⟩ = some (.int .u64 m2) := HF.out.2.2.2.1.range 0 _ rfl
          have c10 : V.cell? ⟨n10, 0, none⟩ = some (.int .u64 m2) := HF.out.2.2.2.2.1.range 0 _ rfl
          go_upto_region 9 with fail
          clear c7 c10
          refine wp_region_held_drew (S := fun V => V.rangeAt n7 0 [.int .u64 m2] ∧ V.rangeAt n10 0 [.int .u64 m2]) (by kernel_rfl) ⟨(World.rangeAt_drew V _ _ _).2 HF.out.2.2.2.1.range, (World.rangeAt_drew V _ _ _).2 HF.out.2.2.2.2.1.range⟩ (fun hH => ?_)
          clear hH
          have HG : Hid (Below w.heap.size w V.drew ∧ Cs V.drew w.heap.size [.int .u64 m] ∧ Cs V.drew (w.heap.size + 1) [.int .u64 m] ∧ Cs V.drew n7 [.int .u64 m2] ∧ Cs V.drew n10 [.int .u64 m2] ∧ w.heap.size + 1 < n7 ∧ w.heap.size + 1 < n10) := Lib.hid (by have hd : Below V.heap.size V V.drew := (Below.refl _ _).drew; exact ⟨HF.out.1.drew, HF.out.2.1.below hd HF.out.2.1.lt, HF.out.2.2.1.below hd HF.out.2.2.1.lt, HF.out.2.2.2.1.below hd HF.out.2.2.2.1.lt, HF.out.2.2.2.2.1.below hd HF.out.2.2.2.2.1.lt, HF.out.2.2.2.2.2⟩)
          have hs0 : V.drew.rangeAt n7 0 [.int .u64 m2] ∧ V.drew.rangeAt n10 0 [.int .u64 m2] := ⟨HG.out.2.2.2.1.range, HG.out.2.2.2.2.1.range⟩
          clear HF
          generalize V.drew = X0 at *
          refine tk 0 (by assumption) rfl (by kernel_rfl) (fun _ _ _ h => h) (tk_load (S := fun V => V.rangeAt n7 0 [.int .u64 m2] ∧ V.rangeAt n10 0 [.int .u64 m2]) 45 (.tmp 7) rfl n7 0 rfl [.int .u64 m2] _ (fun V hV => hV.1) Try.underlying45 (by rfl) (by kernel_rfl)) ?_
          try simp only [Act.put, sqA, sqB, sqC, sqD, sqE, sqF]
          refine tk 1 (by assumption) rfl (by kernel_rfl) (fun _ _ _ h => h) (tk_load (S := fun V => V.rangeAt n7 0 [.int .u64 m2] ∧ V.rangeAt n10 0 [.int .u64 m2]) 45 (.tmp 10) rfl n10 0 rfl [.int .u64 m2] _ (fun V hV => hV.2) Try.underlying45 (by rfl) (by kernel_rfl)) ?_
          try simp only [Act.put, sqA, sqB, sqC, sqD, sqE, sqF]
          refine wpAnyH_ready (rs := [2]) (by kernel_rfl) (by simp) ?_
          refine AllReadyH.cons (o := _) rfl (fun K hK => ?_) AllReadyH.nil
          rw [if_pos (by rfl)]
          refine wp_store_mid 45 (.tmp 2) (.tmp 55) rfl w.heap.size 0 #[.int .u64 m2] rfl rfl HG.out.2.1.there (by kernel_rfl) (all_oneCell_toArray (cs := [.int .u64 m2]) (by intro v hv; simp only [List.mem_cons, List.not_mem_nil, or_false] at hv; rcases hv with rfl; rfl)) ?_
          obtain ⟨X1, hV9⟩ : ∃ V9, V9 = X0.setCell ⟨w.heap.size, 0, none⟩ (.int .u64 m2) := ⟨_, rfl⟩
          rw [show X0.setCells (w.heap.size) 0 (#[.int .u64 m2] : Array Value).toList = X1 from (set1 _ _ _).trans hV9.symm]
          have HG2 : Hid (Below w.heap.size w X1 ∧ Cs X1 w.heap.size [.int .u64 m2] ∧ Cs X1 (w.heap.size + 1) [.int .u64 m] ∧ Cs X1 n7 [.int .u64 m2] ∧ Cs X1 n10 [.int .u64 m2] ∧ w.heap.size + 1 < n7 ∧ w.heap.size + 1 < n10) := Lib.hid (by rw [hV9]; have h7 := HG.out.2.2.2.2.2.1; have h8 := HG.out.2.2.2.2.2.2; exact ⟨set_below _ HG.out.1 (Nat.le_refl _), HG.out.2.1.set 0 (.int .u64 m2) (by simp), HG.out.2.2.1.other (by omega) _, HG.out.2.2.2.1.other (by omega) _, HG.out.2.2.2.2.1.other (by omega) _, h7, h8⟩)
          clear hV9 HG hs0
          have hs0 : X1.rangeAt n7 0 [.int .u64 m2] ∧ X1.rangeAt n10 0 [.int .u64 m2] := ⟨HG2.out.2.2.2.1.range, HG2.out.2.2.2.2.1.range⟩
          refine hK.out _ _ hs0 (fun hH => ?_)
          clear hK K hH
          try simp only [Act.put, sqA, sqB, sqC, sqD, sqE, sqF]
          refine wpAnyH_ready (rs := [3]) (by kernel_rfl) (by simp) ?_
          refine AllReadyH.cons (o := _) rfl (fun K hK => ?_) AllReadyH.nil
          rw [if_pos (by rfl)]
          refine wp_store_mid 45 (.tmp 5) (.tmp 56) rfl (w.heap.size + 1) 0 #[.int .u64 m2] rfl rfl HG2.out.2.2.1.there (by kernel_rfl) (all_oneCell_toArray (cs := [.int .u64 m2]) (by intro v hv; simp only [List.mem_cons, List.not_mem_nil, or_false] at hv; rcases hv with rfl; rfl)) ?_
          obtain ⟨X2, hV9⟩ : ∃ V9, V9 = X1.setCell ⟨(w.heap.size + 1), 0, none⟩ (.int .u64 m2) := ⟨_, rfl⟩
          rw [show X1.setCells ((w.heap.size + 1)) 0 (#[.int .u64 m2] : Array Value).toList = X2 from (set1 _ _ _).trans hV9.symm]
          have HG3 : Hid (Below w.heap.size w X2 ∧ Cs X2 w.heap.size [.int .u64 m2] ∧ Cs X2 (w.heap.size + 1) [.int .u64 m2]) := Lib.hid (by rw [hV9]; exact ⟨set_below _ HG2.out.1 (Nat.le_succ _), HG2.out.2.1.other (by omega) _, HG2.out.2.2.1.set 0 (.int .u64 m2) (by simp)⟩)
          have hs9 : X2.rangeAt n7 0 [.int .u64 m2] ∧ X2.rangeAt n10 0 [.int .u64 m2] := by rw [hV9]; have h7 := HG2.out.2.2.2.2.2.1; have h8 := HG2.out.2.2.2.2.2.2; exact ⟨(HG2.out.2.2.2.1.other (by omega) _).range, (HG2.out.2.2.2.2.1.other (by omega) _).range⟩
          clear hV9 HG2 hs0
          refine hK.out _ _ hs9 (fun hH => ?_)
          clear hK K hH
          try simp only [Act.put, sqA, sqB, sqC, sqD, sqE, sqF]
          refine wpAnyH_done (by kernel_rfl) ?_ _
          clear hs9
          go_wp2_with fail
          exact ⟨⟨k + 1, m2, congrArg (Value.int .i64) (by omega), hlt, HM2.out, HG3.out⟩, by show ns.length - ((k : Int) + 1).toNat < ns.length - (k : Int).toNat; omega⟩
        · go_simp
          obtain ⟨nb, hnb⟩ : ∃ nb, nb = V.heap.size := ⟨_, rfl⟩
          rw [← hnb]
          have KW := Lib.hid (gNx KV.out (gAl V (.cells #[.int .u64 0] 45)))
          have NB : Hid (Cs (V.alloc (.cells #[.int .u64 0] 45)) nb [.int .u64 0] ∧ wr6.heap.size ≤ nb) := Lib.hid (by rw [hnb]; exact ⟨Cs.first V _ _, KV.out.size⟩)
          obtain ⟨VN, hV⟩ : ∃ U, U = V.alloc (.cells #[.int .u64 0] 45) := ⟨_, rfl⟩
          rw [← hV]
          rw [← hV] at KW NB
          clear hV hnb
          obtain ⟨V, hV⟩ : ∃ U, U = VN := ⟨_, rfl⟩
          subst hV
          clear KV
          have KV := KW
          clear KW
          have kv := KV.out
          refine hK.out _ _ kv (fun hH => ?_)
          clear hK K hH
          try simp only [Act.put, sqA, sqB, sqC, sqD, sqE, sqF]
          refine wpAnyH_ready (rs := [5]) (by kernel_rfl) (by simp) ?_
          refine AllReadyH.cons (o := _) rfl (fun K hK => ?_) AllReadyH.nil
          go_simp
          refine (HR.out _).mono ?_
          rintro e2 VN ⟨rfl, b3⟩
          have KW := Lib.hid (gNx KV.out b3)
          try (have NB2 := Lib.hid (And.intro (NB.out.1.below b3 NB.out.1.lt) NB.out.2); clear NB; have NB := NB2; clear NB2)
          clear b3
          obtain ⟨V, hV⟩ : ∃ U, U = VN := ⟨_, rfl⟩
          subst hV
          clear KV
          have KV := KW
          clear KW
          have kv := KV.out
          go_wp2_with fail
          refine hK.out _ _ kv (fun hH => ?_)
          clear hK K hH
          try simp only [Act.put, sqA, sqB, sqC, sqD, sqE, sqF]
          refine tk 6 (by assumption) rfl (by kernel_rfl) (fun _ _ _ h => h) (fun V hV => by go_simp; try with_reducible rfl) ?_
          try simp only [Act.put, sqA, sqB, sqC, sqD, sqE, sqF]
          refine tk 7 (by assumption) rfl (by kernel_rfl) (fun _ _ _ h => h) (fun V hV => by go_simp; try with_reducible rfl) ?_
          try simp only [Act.put, sqA, sqB, sqC, sqD, sqE, sqF]
          refine tk 8 (by assumption) rfl (by kernel_rfl) (fun _ _ _ h => h) (fun V hV => by go_simp; try with_reducible rfl) ?_
          try simp only [Act.put, sqA, sqB, sqC, sqD, sqE, sqF]
          refine tk 9 (by assumption) rfl (by kernel_rfl) (fun _ _ _ h => h) (fun V hV => by go_simp; try with_reducible rfl) ?_
          try simp only [Act.put, sqA, sqB, sqC, sqD, sqE, sqF]
          refine wpAnyH_ready (rs := [11]) (by kernel_rfl) (by simp) ?_
          refine AllReadyH.cons (o := _) rfl (fun K hK => ?_) AllReadyH.nil
          rw [if_pos (by rfl)]
          refine wp_store_mid 45 (.tmp 10) (.tmp 37) rfl nb 0 #[.int .u64 m2] rfl rfl NB.out.1.there (by kernel_rfl) (all_oneCell_toArray (cs := [.int .u64 m2]) (by intro v hv; simp only [List.mem_cons, List.not_mem_nil, or_false] at hv; rcases hv with rfl; rfl)) ?_
          have KW := Lib.hid (below_set nb NB.out.2 [.int .u64 m2] 0 _ KV.out)
          have NS : Hid (Cs (World.setCells _ nb 0 [.int .u64 m2]) nb [.int .u64 m2] ∧ wr6.heap.size ≤ nb) := Lib.hid (And.intro (by rw [set1]; exact NB.out.1.set 0 (.int .u64 m2) (by simp)) NB.out.2)
          clear NB
          rw [show ∀ W : World, W.setCells nb 0 (#[.int .u64 m2] : Array Value).toList = W.setCells nb 0 [.int .u64 m2] from fun _ => rfl]
          refine hK.out _ _ KW.out (fun hH => ?_)
          clear hK K hH
          clear KV
          have KV := KW
          clear KW
          have kv := KV.out
          generalize World.setCells _ nb 0 [.int .u64 m2] = V at *
          try simp only [Act.put, sqA, sqB, sqC, sqD, sqE, sqF]
          refine tk 12 (by assumption) rfl (by kernel_rfl) (fun _ _ _ h => h) (fun V hV => by go_simp; try with_reducible rfl) ?_
          try simp only [Act.put, sqA, sqB, sqC, sqD, sqE, sqF]
          refine tk 13 (by assumption) rfl (by kernel_rfl) (fun _ _ _ h => h) (fun V hV => by go_simp; try with_reducible rfl) ?_
          try simp only [Act.put, sqA, sqB, sqC, sqD, sqE, sqF]
          refine wpAnyH_done (by kernel_rfl) ?_ _
          have HF : Hid (Below w.heap.size w V ∧ Cs V w.heap.size [.int .u64 m] ∧ Cs V (w.heap.size + 1) [.int .u64 m] ∧ Cs V n7 [.int .u64 m2] ∧ Cs V nb [.int .u64 m2] ∧ w.heap.size + 1 < n7 ∧ w.heap.size + 1 < nb) := Lib.hid ⟨gNx HF5.out.1 KV.out, HF5.out.2.1.below KV.out HF5.out.2.1.lt, HF5.out.2.2.1.below KV.out HF5.out.2.2.1.lt, HF5.out.2.2.2.1.below KV.out HF5.out.2.2.2.1.lt, NS.out.1, HF5.out.2.2.2.2.1, by have := NS.out.2; have := HF5.out.2.2.1.lt; omega⟩
          clear NS KV kv
          obtain ⟨n10, hn10⟩ : ∃ n10, n10 = nb := ⟨_, rfl⟩
          subst hn10
          have c7 : V.cell? ⟨n7, 0, none⟩ = some (.int .u64 m2) := HF.out.2.2.2.1.range 0 _ rfl
          have c10 : V.cell? ⟨n10, 0, none⟩ = some (.int .u64 m2) := HF.out.2.2.2.2.1.range 0 _ rfl
          go_upto_region 9 with fail
          clear c7 c10
          refine wp_region_held_drew (S := fun V => V.rangeAt n7 0 [.int .u64 m2] ∧ V.rangeAt n10 0 [.int .u64 m2]) (by kernel_rfl) ⟨(World.rangeAt_drew V _ _ _).2 HF.out.2.2.2.1.range, (World.rangeAt_drew V _ _ _).2 HF.out.2.2.2.2.1.range⟩ (fun hH => ?_)
          clear hH
          have HG : Hid (Below w.heap.size w V.drew ∧ Cs V.drew w.heap.size [.int .u64 m] ∧ Cs V.drew (w.heap.size + 1) [.int .u64 m] ∧ Cs V.drew n7 [.int .u64 m2] ∧ Cs V.drew n10 [.int .u64 m2] ∧ w.heap.size + 1 < n7 ∧ w.heap.size + 1 < n10) := Lib.hid (by have hd : Below V.heap.size V V.drew := (Below.refl _ _).drew; exact ⟨HF.out.1.drew, HF.out.2.1.below hd HF.out.2.1.lt, HF.out.2.2.1.below hd HF.out.2.2.1.lt, HF.out.2.2.2.1.below hd HF.out.2.2.2.1.lt, HF.out.2.2.2.2.1.below hd HF.out.2.2.2.2.1.lt, HF.out.2.2.2.2.2⟩)
          have hs0 : V.drew.rangeAt n7 0 [.int .u64 m2] ∧ V.drew.rangeAt n10 0 [.int .u64 m2] := ⟨HG.out.2.2.2.1.range, HG.out.2.2.2.2.1.range⟩
          clear HF
          generalize V.drew = X0 at *
          refine tk 0 (by assumption) rfl (by kernel_rfl) (fun _ _ _ h => h) (tk_load (S := fun V => V.rangeAt n7 0 [.int .u64 m2] ∧ V.rangeAt n10 0 [.int .u64 m2]) 45 (.tmp 7) rfl n7 0 rfl [.int .u64 m2] _ (fun V hV => hV.1) Try.underlying45 (by rfl) (by kernel_rfl)) ?_
          try simp only [Act.put, sqA, sqB, sqC, sqD, sqE, sqF]
          refine tk 1 (by assumption) rfl (by kernel_rfl) (fun _ _ _ h => h) (tk_load (S := fun V => V.rangeAt n7 0 [.int .u64 m2] ∧ V.rangeAt n10 0 [.int .u64 m2]) 45 (.tmp 10) rfl n10 0 rfl [.int .u64 m2] _ (fun V hV => hV.2) Try.underlying45 (by rfl) (by kernel_rfl)) ?_
          try simp only [Act.put, sqA, sqB, sqC, sqD, sqE, sqF]
          refine wpAnyH_ready (rs := [2]) (by kernel_rfl) (by simp) ?_
          refine AllReadyH.cons (o := _) rfl (fun K hK => ?_) AllReadyH.nil
          rw [if_pos (by rfl)]
          refine wp_store_mid 45 (.tmp 2) (.tmp 55) rfl w.heap.size 0 #[.int .u64 m2] rfl rfl HG.out.2.1.there (by kernel_rfl) (all_oneCell_toArray (cs := [.int .u64 m2]) (by intro v hv; simp only [List.mem_cons, List.not_mem_nil, or_false] at hv; rcases hv with rfl; rfl)) ?_
          obtain ⟨X1, hV9⟩ : ∃ V9, V9 = X0.setCell ⟨w.heap.size, 0, none⟩ (.int .u64 m2) := ⟨_, rfl⟩
          rw [show X0.setCells (w.heap.size) 0 (#[.int .u64 m2] : Array Value).toList = X1 from (set1 _ _ _).trans hV9.symm]
          have HG2 : Hid (Below w.heap.size w X1 ∧ Cs X1 w.heap.size [.int .u64 m2] ∧ Cs X1 (w.heap.size + 1) [.int .u64 m] ∧ Cs X1 n7 [.int .u64 m2] ∧ Cs X1 n10 [.int .u64 m2] ∧ w.heap.size + 1 < n7 ∧ w.heap.size + 1 < n10) := Lib.hid (by rw [hV9]; have h7 := HG.out.2.2.2.2.2.1; have h8 := HG.out.2.2.2.2.2.2; exact ⟨set_below _ HG.out.1 (Nat.le_refl _), HG.out.2.1.set 0 (.int .u64 m2) (by simp), HG.out.2.2.1.other (by omega) _, HG.out.2.2.2.1.other (by omega) _, HG.out.2.2.2.2.1.other (by omega) _, h7, h8⟩)
          clear hV9 HG hs0
          have hs0 : X1.rangeAt n7 0 [.int .u64 m2] ∧ X1.rangeAt n10 0 [.int .u64 m2] := ⟨HG2.out.2.2.2.1.range, HG2.out.2.2.2.2.1.range⟩
          refine hK.out _ _ hs0 (fun hH => ?_)
          clear hK K hH
          try simp only [Act.put, sqA, sqB, sqC, sqD, sqE, sqF]
          refine wpAnyH_ready (rs := [3]) (by kernel_rfl) (by simp) ?_
          refine AllReadyH.cons (o := _) rfl (fun K hK => ?_) AllReadyH.nil
          rw [if_pos (by rfl)]
          refine wp_store_mid 45 (.tmp 5) (.tmp 56) rfl (w.heap.size + 1) 0 #[.int .u64 m2] rfl rfl HG2.out.2.2.1.there (by kernel_rfl) (all_oneCell_toArray (cs := [.int .u64 m2]) (by intro v hv; simp only [List.mem_cons, List.not_mem_nil, or_false] at hv; rcases hv with rfl; rfl)) ?_
          obtain ⟨X2, hV9⟩ : ∃ V9, V9 = X1.setCell ⟨(w.heap.size + 1), 0, none⟩ (.int .u64 m2) := ⟨_, rfl⟩
          rw [show X1.setCells ((w.heap.size + 1)) 0 (#[.int .u64 m2] : Array Value).toList = X2 from (set1 _ _ _).trans hV9.symm]
          have HG3 : Hid (Below w.heap.size w X2 ∧ Cs X2 w.heap.size [.int .u64 m2] ∧ Cs X2 (w.heap.size + 1) [.int .u64 m2]) := Lib.hid (by rw [hV9]; exact ⟨set_below _ HG2.out.1 (Nat.le_succ _), HG2.out.2.1.other (by omega) _, HG2.out.2.2.1.set 0 (.int .u64 m2) (by simp)⟩)
          have hs9 : X2.rangeAt n7 0 [.int .u64 m2] ∧ X2.rangeAt n10 0 [.int .u64 m2] := by rw [hV9]; have h7 := HG2.out.2.2.2.2.2.1; have h8 := HG2.out.2.2.2.2.2.2; exact ⟨(HG2.out.2.2.2.1.other (by omega) _).range, (HG2.out.2.2.2.2.1.other (by omega) _).range⟩
          clear hV9 HG2 hs0
          refine hK.out _ _ hs9 (fun hH => ?_)
          clear hK K hH
          try simp only [Act.put, sqA, sqB, sqC, sqD, sqE, sqF]
          refine wpAnyH_done (by kernel_rfl) ?_ _
          clear hs9
          go_wp2_with fail
          exact ⟨⟨k + 1, m2, congrArg (Value.int .i64) (by omega), hlt, HM2.out, HG3.out⟩, by show ns.length - ((k : Int) + 1).toNat < ns.length - (k : Int).toNat; omega⟩
    · have hnk : ¬ (k : Int) < (ns.length : Int) := by omega
      go_wp2_with (go_at_call 15; refine (dAwake14_any _).mono ?_; rintro e V ⟨rfl, hb⟩; have HB9 := Lib.hid (gNx HQ.out.1 hb); clear hb)
      refine bodyPost_ret (v := .bool true) (by simp [results, Try.results5, go_sem]) rfl ?_
      exact ⟨rfl, HB9.out⟩
end Go.Proofs.Ytfnmfmelcghjbaa
