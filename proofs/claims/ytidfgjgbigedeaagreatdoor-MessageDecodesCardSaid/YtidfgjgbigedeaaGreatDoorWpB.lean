/- The program's parser of shapes. -/
import Derived.Test.YtidfgjgbigedeaaGreatDoorWpA
import Derived.Test.YtidfgjgbigedeaaGreatDoorWqAll
namespace Go.Proofs.YtidfgjgbigedeaaGreatDoor
open Go.RowKit Go.Lib Go.Wq
set_option linter.unusedVariables false
set_option linter.unusedSimpArgs false
set_option maxRecDepth 100000

def lettersS : ByteArray := ⟨#[117, 105, 102, 98, 116]⟩
def ixV (c : UInt8) : Int := match (List.range 5).find? fun i => lettersS[i]! == c with | some i => (i : Int) | none => -1
theorem ixV_some (c : UInt8) : decide (0 ≤ ixV c) = (letter c).isSome := by
  have h : ∀ m : Fin 256, decide (0 ≤ ixV (UInt8.ofNat m.val)) = (letter (UInt8.ofNat m.val)).isSome := by decide +kernel
  have h1 := h ⟨c.toNat, c.toNat_lt⟩
  simpa using h1
theorem ib_eq (b c : Value) : Go.Extern.BytealgIndexByte.indexByte #[b, c] = (do
    let b ← Go.Extern.Bytes.bytesOf b
    let c ← Go.Extern.Bytes.asByte c
    match (List.range b.size).find? fun i => b[i]! == c with
    | some i => pure (goInt i)
    | none => pure (goInt (-1))) := rfl
theorem ix_run (c : UInt8) (w : World) : (Go.Extern.BytealgIndexByte.indexByte #[.string lettersS, .int .u8 (c.toNat : Int)]).run Tryz.prog w = .ok (.int .i64 (ixV c)) w := by
  have hb : Go.Extern.Bytes.asByte (.int .u8 (c.toNat : Int)) = (pure c : Sem UInt8) := by
    simp [Go.Extern.Bytes.asByte]
  have hd : Go.Extern.Bytes.bytesOf (.string lettersS) = (pure lettersS : Sem ByteArray) := rfl
  rw [ib_eq, hb, hd]
  unfold ixV
  have hz : lettersS.size = 5 := rfl
  simp only [Sem.run_bind, Sem.run_pure, Result.andThen_ok, hz]
  cases (List.range 5).find? fun i => lettersS[i]! == c <;> rfl
theorem index_letters (c : UInt8) (w : World) : Calls Tryz.prog 90 #[.string lettersS, .int .u8 (c.toNat : Int)] w fun e w' => e = .returned (.int .i64 (ixV c)) ∧ w = w' := by
  have hx := ix_run c
  have hc : ∀ args w, (callFunc 136 args).run Tryz.prog w = _ := @run_callFunc_extern Tryz.prog 136 _ Go.Extern.BytealgIndexByte.indexByte Tryz.func136 (by kernel_rfl) (by kernel_rfl) (by kernel_rfl) (by kernel_rfl)
  generalize lettersS = s at *
  go_enter Tryz.func90, Tryz.ntmps90
  go_wp2
  go_ret
  exact ⟨rfl, rfl⟩

/-- What stands within a list. -/
def wthn (deep : Nat) (r : List UInt8) : Option (List It × List UInt8) :=
  if 8 < deep then none else match prs deep r with
    | some (inn, _ :: q) => if inn = [] then none else some (inn, q)
    | _ => none
theorem prs_open' (deep : Nat) (r : List UInt8) : prs deep (40 :: r) = match wthn (deep + 1) r with
    | some (inn, q) => (match prs deep q with | some (l, q') => some (.l inn :: l, q') | none => none)
    | none => none := by
  rw [prs_open]
  unfold wthn
  by_cases h8 : 8 < deep + 1
  · rw [if_pos h8]
    cases prs (deep + 1) r with
    | none => rfl
    | some x =>
      obtain ⟨inn, q⟩ := x
      cases q with
      | nil => rfl
      | cons c q => simp [h8]
  · rw [if_neg h8]
    cases prs (deep + 1) r with
    | none => rfl
    | some x =>
      obtain ⟨inn, q⟩ := x
      cases q with
      | nil => rfl
      | cons c q =>
        by_cases hi : inn = []
        · simp [hi]
        · simp only [hi, h8, or_self, if_false]
          cases prs deep q <;> rfl
def wthnOf (inn : List It) : List UInt8 → Option (List It × List UInt8)
  | _ :: q' => if inn = [] then none else some (inn, q')
  | [] => none
theorem wthn_some {deep : Nat} {r : List UInt8} {inn : List It} {q : List UInt8} (h8 : ¬ 8 < deep) (hx : prs deep r = some (inn, q)) : wthn deep r = wthnOf inn q := by
  unfold wthn; rw [if_neg h8, hx]; cases q <;> rfl
theorem wthn_left {deep : Nat} {r : List UInt8} {inn : List It} {q : List UInt8} (h : wthn deep r = some (inn, q)) : ∃ p c, r = p ++ c :: q := by
  unfold wthn at h
  split at h
  · cases h
  · split at h
    · rename_i inn' c q' hp
      split at h
      · cases h
      · injection h with h; injection h with h1 h2; subst h1; subst h2
        obtain ⟨p, hp, -⟩ := prs_left hp
        exact ⟨p, c, hp⟩
    · cases h
theorem code_of {c : UInt8} {it : It} (h : letter c = some it) : it.code = (c.toNat : Int) ∧ it.inner = [] := by
  unfold letter at h
  split at h
  · rename_i e; subst e; cases h; exact ⟨rfl, rfl⟩
  · split at h
    · rename_i e; subst e; cases h; exact ⟨rfl, rfl⟩
    · split at h
      · rename_i e; subst e; cases h; exact ⟨rfl, rfl⟩
      · split at h
        · rename_i e; subst e; cases h; exact ⟨rfl, rfl⟩
        · split at h
          · rename_i e; subst e; cases h; exact ⟨rfl, rfl⟩
          · cases h
/-- How itemsAt and withinAt end. -/
def ItsEnds (s : ByteArray) (x : Option (List It × List UInt8)) (w : World) (e : Ending) (w' : World) : Prop :=
  match x with
  | some (l, q) => ∃ (a : Option Addr) (c : Nat), e = .returned (.tuple #[.slice a l.length c, .int .i64 ((s.size : Int) - (q.length : Int))]) ∧ ItsZ w' (fun k => w.heap.size ≤ k ∧ k < w'.heap.size) l a l.length ∧ Below w.heap.size w w'
  | none => Dies 40 0 w e w' ∧ Below w.heap.size w w'

theorem its_some {s : ByteArray} {m : List It} {q : List UInt8} {x : Option (List It × List UInt8)} {w w' : World} {v : Value} {xs : List Value} {n : Int} (hx : x = some (m, q)) (ho : w'.ownsRow w.heap.size 95 2 v m.length xs) (hh : HoldsZ w' (Mine w.heap.size w' v) xs m)
    (hb : Below w.heap.size w w') (hn : n = (s.size : Int) - (q.length : Int)) : ItsEnds s x w (.returned (.tuple #[v, .int .i64 n])) w' := by
  subst hx; subst hn
  obtain ⟨a, c, rfl, h⟩ := own_itsZ ho hh
  exact ⟨a, c, rfl, h, hb⟩
theorem infoWi : ∃ (i : TypeInfo) (z : Value), Tryz.prog.info? 95 = some i ∧ i.zero = some z ∧ i.size = 2 ∧ i.bytes = 32 ∧ z.cells.size = 2 := by
  refine ⟨_, _, rfl, rfl, ?_, ?_, ?_⟩ <;> kernel_rfl

set_option maxHeartbeats 4000000 in
theorem itemsAt_any (s : ByteArray) (hs : s.size ≤ 256) (p0 deep : Nat) (hp0 : p0 ≤ s.size) (hd : deep ≤ p0)
    (IH : ∀ p d, p0 < p → p ≤ s.size → d ≤ p → ∀ w, Calls Tryz.prog 89 #[.string s, .int .i64 (p : Int), .int .i64 (d : Int)] w fun e w' => ItsEnds s (wthn d (s.data.toList.drop p)) w e w') (w : World) :
    Calls Tryz.prog 64 #[.string s, .int .i64 (p0 : Int), .int .i64 (deep : Int)] w fun e w' => ItsEnds s (prs deep (s.data.toList.drop p0)) w e w' := by
  obtain ⟨i0, z0, hi, hz0, hz1, hz2, hz3⟩ := infoWi
  have IH2 := Lib.hid IH
  clear IH
  go_enter Tryz.func64, Tryz.ntmps64
  go_wp2
  go_loopw [1, 8] (fun i v wr => ∃ (p : Nat) (m : List It) (xs : List Value), p0 ≤ p ∧ p ≤ s.size ∧ i = .int .i64 (p : Int) ∧ wr.ownsRow w.heap.size 95 2 v m.length xs ∧ HoldsZ wr (Mine w.heap.size wr v) xs m ∧ prs deep (s.data.toList.drop p0) = aheadOf m (prs deep (s.data.toList.drop p)) ∧ Below w.heap.size w wr ∧ m.length ≤ p) (fun i _ _ => s.size - (intOf i).toNat)
  case atStart => exact ⟨p0, [], [], Nat.le_refl _, hp0, rfl, World.ownsRow_nil _ _ _ _, .nil, by rw [aheadOf_nil], Below.refl _ _, Nat.zero_le _⟩
  case round =>
    obtain ⟨p, m, xs, hpp, hps, rfl, hown, hholds, hprs, hb, hml⟩ := hrel
    by_cases hlt : p < s.size
    · have hix : 0 ≤ (p : Int) ∧ (p : Int) < (s.size : Int) := by omega
      have hixx := hix.2
      have hdrop := drop_cons s p hlt
      have HO := Lib.hid hown
      have HH := Lib.hid hholds
      have HB := Lib.hid hb
      have hszb := hb.size
      have H63 : Hid (m.length + 1 ≤ maxLen) := Lib.hid (by unfold maxLen; omega)
      have H47 : Hid ((m.length + 1) * 32 ≤ 140737488355328) := Lib.hid (by omega)
      have HCS : Hid (∀ (W : World) (cv : Int) (sv : Value) (j : Nat) (u : Value), ([.int .u8 cv, sv] : List Value)[j]? = some u → (W.alloc (.cells #[.int .u8 cv, sv] 95)).cell? ((⟨W.heap.size, 0, none⟩ : Addr).add j) = some u) := Lib.hid (by
        intro W cv sv j u hj
        match j with
        | 0 => simp at hj; subst hj; simp [Addr.add]
        | 1 => simp at hj; subst hj; simp [Addr.add]
        | j + 2 => simp at hj)
      by_cases h41 : s[p]'hlt = 41
      · have hcI : ((s[p]'hlt).toNat : Int) = 41 := by rw [h41]; rfl
        have HE : Hid (prs deep (s.data.toList.drop p0) = some (m, s.data.toList.drop p)) := Lib.hid (by rw [hprs, hdrop, h41, prs_close]; simp [aheadOf])
        clear hholds hown hb hprs hdrop
        go_wp2_with fail
        refine bodyPost_ret (v := .tuple #[u8, .int .i64 (p : Int)]) (by simp [results, Tryz.results64, go_sem]) rfl ?_
        exact its_some HE.out HO.out HH.out HB.out (by rw [drop_len]; omega)
      · have hn41 : ¬ ((s[p]'hlt).toNat : Int) = 41 := fun h => h41 (by apply UInt8.toNat_inj.1; exact_mod_cast h)
        by_cases hc : s[p]'hlt = 40
        · have hcI : ((s[p]'hlt).toNat : Int) = 40 := by rw [hc]; rfl
          have HREC : Hid (∀ w, Calls Tryz.prog 89 #[.string s, .int .i64 ((p : Int) + 1), .int .i64 ((deep : Int) + 1)] w fun e w' => ItsEnds s (wthn (deep + 1) (s.data.toList.drop (p + 1))) w e w') := Lib.hid (fun w => by have h := IH2.out (p + 1) (deep + 1) (by omega) (by omega) (by omega) w; simp only [Int.natCast_add, Int.natCast_one] at h; exact h)
          cases hx : wthn (deep + 1) (s.data.toList.drop (p + 1)) with
          | none =>
            have HE : Hid (prs deep (s.data.toList.drop p0) = none) := Lib.hid (by rw [hprs, hdrop, hc, prs_open', hx]; rfl)
            have HR : Hid (∀ w, Calls Tryz.prog 89 #[.string s, .int .i64 ((p : Int) + 1), .int .i64 ((deep : Int) + 1)] w fun e w' => Dies 40 0 w e w' ∧ Below w.heap.size w w') := Lib.hid (fun w => (HREC.out w).mono (fun e w' h => by rw [hx] at h; exact h))
            clear hholds hown hprs hdrop hx HREC
            go_wp2_with fail
            refine (HR.out _).mono ?_
            rintro e w3 ⟨⟨pb, rfl, hd1⟩, hb3⟩
            have HD := Lib.hid hd1
            have HB3 := Lib.hid hb3
            clear hd1 hb3
            go_wp2_with fail
            refine ⟨rfl, ?_⟩
            rw [HE.out]
            exact ⟨⟨pb, rfl, by have h1 := HD.out.1; simp at h1; omega, HD.out.2⟩, (HB.out.alloc hszb _).trans (HB3.out.mono (by simp; omega))⟩
          | some y =>
            obtain ⟨inn, q⟩ := y
            obtain ⟨pre, c', hpre⟩ := wthn_left hx
            have hql := congrArg List.length hpre
            rw [drop_len, List.length_append, List.length_cons] at hql
            have HR0 : Hid (∀ w, Calls Tryz.prog 89 #[.string s, .int .i64 ((p : Int) + 1), .int .i64 ((deep : Int) + 1)] w fun e w' => ∃ (a : Option Addr) (c : Nat), e = .returned (.tuple #[.slice a inn.length c, .int .i64 ((s.size - q.length : Nat) : Int)]) ∧ ItsZ w' (fun k => w.heap.size ≤ k ∧ k < w'.heap.size) inn a inn.length ∧ Below w.heap.size w w') := Lib.hid (fun w => (HREC.out w).mono (fun e w' h => by rw [hx] at h; obtain ⟨a, c, h1, h2, h3⟩ := h; have hE : (s.size : Int) - (q.length : Int) = ((s.size - q.length : Nat) : Int) := (by omega); rw [hE] at h1; exact ⟨a, c, h1, h2, h3⟩))
            have hdb := drop_back hpre
            obtain ⟨en, hen⟩ : ∃ en, en = s.size - q.length := ⟨_, rfl⟩
            rw [← hen] at HR0 hdb
            have HE : Hid (prs deep (s.data.toList.drop p0) = aheadOf (m ++ [It.l inn]) (prs deep (s.data.toList.drop en))) := Lib.hid (by rw [hprs, hdrop, hc, prs_open', hx, aheadOf_snoc, hdb]; simp only []; cases prs deep q <;> rfl)
            have hens : en ≤ s.size := by omega
            have henp : p < en := by omega
            have HLT : Hid (∀ k, Value.ownBlock u8 = some k → w.heap.size ≤ k ∧ k < wr.heap.size) := Lib.hid HO.out.lt
            clear hholds hown hprs hdrop hx hpre hql HREC hdb hen
            go_wp2_with fail
            refine (HR0.out _).mono ?_
            rintro e w3 ⟨xa, xc, rfl, hi3, hb3⟩
            have hs3 : wr.heap.size + 1 ≤ w3.heap.size := by have := hb3.size; simpa using this
            have D : ∀ j, w3.cell? ⟨wr.heap.size, j, none⟩ = (wr.alloc (.cells #[.int .u8 40, .slice none 0 0] 95)).cell? ⟨wr.heap.size, j, none⟩ := fun j => hb3.cell (p := ⟨wr.heap.size, j, none⟩) (by simp)
            have d0 : w3.cell? ⟨wr.heap.size, 0, none⟩ = some (.int .u8 40) := (D 0).trans (by simp [go_sem])
            have d1 : w3.cell? ⟨wr.heap.size, 1, none⟩ = some (.slice none 0 0) := (D 1).trans (by simp [go_sem])
            have f1 : w3.frozen? ⟨wr.heap.size, 1, none⟩ = false := (hb3.frozen (p := ⟨wr.heap.size, 1, none⟩) (by simp)).trans (by simp [go_sem])
            have HB3 : Hid (Below wr.heap.size wr (w3.setCell ⟨wr.heap.size, 1, none⟩ (.slice xa inn.length xc))) := Lib.hid (((((Below.refl _ wr).alloc (Nat.le_refl _) _).trans (hb3.mono (by simp)))).setCell (Nat.le_refl _) _)
            have HO3 : Hid ((w3.setCell ⟨wr.heap.size, 1, none⟩ (.slice xa inn.length xc)).ownsRow w.heap.size 95 2 u8 m.length xs) := Lib.hid (own_kept HO.out HB3.out)
            have HI3 : Hid (ItsZ (w3.setCell ⟨wr.heap.size, 1, none⟩ (.slice xa inn.length xc)) (fun k => wr.heap.size + 1 ≤ k ∧ k < w3.heap.size) inn xa inn.length) := Lib.hid (ItsZ.kept (w := w3) (fun k hk => by
              rw [Below.heap_setCell _ _ _ _ (by have := hk.1; simp at this ⊢; omega)]) (fun k hk => by have := hk.1; simp at this; exact ⟨by omega, hk.2⟩) _ _ _ hi3)
            have hss : (w3.setCell ⟨wr.heap.size, 1, none⟩ (.slice xa inn.length xc)).heap.size = w3.heap.size := by simp [World.setCell]
            clear hi3 hb3 D
            obtain ⟨W3, hW3⟩ : ∃ W3, W3 = w3.setCell ⟨wr.heap.size, 1, none⟩ (.slice xa inn.length xc) := ⟨_, rfl⟩
            rw [← hW3] at HB3 HO3 HI3 hss
            go_wp2_with (at_builtin; rw [← hW3]; refine wpList_append_vals _ rfl _ _ 67 rfl w.heap.size 95 i0 z0 2 32 Tryz.underlying67 hi hz0 hz1 hz2 hz3 (by decide) _ m.length xs rfl (HO3.out.alloc _) ⟨W3.heap.size, 0, none⟩ 1 1 [.int .u8 40, .slice xa inn.length xc] (by rw [hss]; rfl) rfl (HCS.out W3 40 (.slice xa inn.length xc)) (by intro u hu; simp at hu; rcases hu with rfl | rfl <;> rfl) H63.out H47.out (by simp; omega) ?_; intro v' w4 hown hg; have HO2 := Lib.hid hown; have HG := Lib.hid hg; clear hown hg)
            have HG4 : Grew wr w4 u8 v' := ((Grew.of_below u8 HB3.out).trans (Grew.alloc W3 _ u8)).trans HG.out
            have HN : ItsZ w4 (Mine w.heap.size w4 v') inn xa inn.length := ItsZ.kept (w := W3) (fun k hk => by
                have h1 : k < W3.heap.size := by rw [hss]; exact hk.2
                have h2 : Value.ownBlock u8 ≠ some k := fun e => by have := (HLT.out k e).2; have := hk.1; omega
                rw [HG.out.g.block k (by simp; omega) (fun e => h2 e.symm)]
                exact Below.heap_alloc _ _ _ h1) (fun k hk => by
                have h1 : k < W3.heap.size := by rw [hss]; exact hk.2
                have h2 : Value.ownBlock u8 ≠ some k := fun e => by have := (HLT.out k e).2; have := hk.1; omega
                have h3 := HG.out.g.size
                simp at h3
                exact ⟨by have := hk.1; omega, by omega, HG.out.other (by simp; omega) h2⟩) _ _ _ HI3.out
            exact ⟨⟨en, m ++ [It.l inn], xs ++ [.int .u8 40, .slice xa inn.length xc], by omega, by omega, by simp, by rw [List.length_append]; exact HO2.out,
              (HH.out.grew HG4).snoc (It.l inn) xa inn.length xc HN, HE.out,
              HB.out.trans (HG4.below hszb (fun k hk => (HLT.out k hk).1)), by simp; omega⟩, by simp [intOf]; omega⟩
        · have hn40 : ¬ ((s[p]'hlt).toNat : Int) = 40 := fun h => hc (by apply UInt8.toNat_inj.1; exact_mod_cast h)
          have hixs := ixV_some (s[p]'hlt)
          have HIX := Lib.hid (index_letters (s[p]'hlt))
          cases hl : letter (s[p]'hlt) with
          | none =>
            have HE : Hid (prs deep (s.data.toList.drop p0) = none) := Lib.hid (by rw [hprs, hdrop, prs_bad hl h41 hc]; rfl)
            rw [hl] at hixs
            have hz : decide ((0 : Int) ≤ ixV (s[p]'hlt)) = false := hixs
            generalize ixV (s[p]'hlt) = z at *
            clear hholds hown hprs hdrop hl hixs
            go_wp2_with fail
            refine (HIX.out _).mono ?_
            rintro e w3 ⟨rfl, rfl⟩
            go_wp2_with fail
            try rw [hz]
            refine (checkShape_bad _).mono ?_
            rintro e w3 ⟨⟨pb, rfl, hd1⟩, hb3⟩
            have HD := Lib.hid hd1
            have HB3 := Lib.hid hb3
            clear hd1 hb3
            go_wp2_with fail
            refine ⟨rfl, ?_⟩
            rw [HE.out]
            exact ⟨⟨pb, rfl, by have h1 := HD.out.1; simp at h1; omega, HD.out.2⟩, (HB.out.alloc hszb _).trans (HB3.out.mono (by simp; omega))⟩
          | some it =>
            obtain ⟨hcode, hnl⟩ := code_of hl
            have HL : Hid (prs deep (s.data.toList.drop p0) = aheadOf (m ++ [it]) (prs deep (s.data.toList.drop (p + 1)))) := Lib.hid (by rw [hprs, hdrop, prs_letter hl h41, aheadOf_snoc])
            have HSN := Lib.hid (fun (w' : World) (v' : Value) (hh : HoldsZ w' (Mine w.heap.size w' v') xs m) => hh.snoc it none 0 0 (by rw [hnl]; simp [ItsZ]))
            rw [hcode] at HSN
            rw [hl] at hixs
            have hz : (0 : Int) ≤ ixV (s[p]'hlt) := of_decide_eq_true hixs
            generalize ixV (s[p]'hlt) = z at *
            have HSC : Hid (∃ x : Int, x = ((s[p]'hlt).toNat : Int)) := Lib.hid ⟨_, rfl⟩
            clear hholds hown hprs hdrop hl hixs hcode hnl
            go_wp2_with fail
            refine (HIX.out _).mono ?_
            rintro e w3 ⟨rfl, rfl⟩
            go_wp2_with fail
            refine (checkShape_ok _).mono ?_
            rintro e w3 ⟨rfl, rfl⟩
            generalize ((s[p]'hlt).toNat : Int) = ch at *
            go_wp2_with (at_builtin; refine wpList_append_vals _ rfl _ _ 67 rfl w.heap.size 95 i0 z0 2 32 Tryz.underlying67 hi hz0 hz1 hz2 hz3 (by decide) _ m.length xs rfl ((HO.out.alloc _).alloc _) ⟨wr.heap.size + 1, 0, none⟩ 1 1 [.int .u8 ch, .slice none 0 0] rfl rfl (by have h := HCS.out (wr.alloc (.cells #[.int .u8 ch, .slice none 0 0] 95)) ch (.slice none 0 0); simpa using h) (by intro u hu; simp at hu; rcases hu with rfl | rfl <;> rfl) H63.out H47.out (by simp; omega) ?_; intro v' w3 hown hg; have HO2 := Lib.hid hown; have HG := Lib.hid hg; clear hown hg)
            exact ⟨⟨p + 1, m ++ [it], xs ++ [.int .u8 ch, .slice none 0 0], by omega, by omega, by simp, by rw [List.length_append]; exact HO2.out, HSN.out w3 v' ((HH.out.grew ((Grew.alloc wr _ _).trans (Grew.alloc _ _ _))).grew HG.out), HL.out,
              ((HB.out.alloc hszb _).alloc (by simp; omega) _).trans (HG.out.below (by simp; omega) (fun k hk => (HO.out.lt k hk).1)), by simp; omega⟩, by simp [intOf]; omega⟩
    · have HE : Hid (prs deep (s.data.toList.drop p0) = some (m, s.data.toList.drop p)) := Lib.hid (by rw [hprs, drop_end s p hlt, prs_nil]; simp [aheadOf])
      have HO := Lib.hid hown
      have HH := Lib.hid hholds
      have HB := Lib.hid hb
      have hnl : ¬ (p : Int) < (s.size : Int) := by omega
      clear hown hholds hb hprs
      go_wp2_with fail
      refine bodyPost_ret (v := .tuple #[u8, .int .i64 (p : Int)]) (by simp [results, Tryz.results64, go_sem]) rfl ?_
      exact its_some HE.out HO.out HH.out HB.out (by rw [drop_len]; omega)

theorem its_none {s : ByteArray} {x : Option (List It × List UInt8)} {w w' : World} {e : Ending} (hx : x = none) (hd : Dies 40 0 w e w') (hb : Below w.heap.size w w') : ItsEnds s x w e w' := by
  subst hx; exact ⟨hd, hb⟩

set_option maxHeartbeats 4000000 in
theorem withinAt_any (s : ByteArray) (hs : s.size ≤ 256) (p deep : Nat) (hp : p ≤ s.size)
    (IH : ∀ w, Calls Tryz.prog 64 #[.string s, .int .i64 (p : Int), .int .i64 (deep : Int)] w fun e w' => ItsEnds s (prs deep (s.data.toList.drop p)) w e w') (w : World) :
    Calls Tryz.prog 89 #[.string s, .int .i64 (p : Int), .int .i64 (deep : Int)] w fun e w' => ItsEnds s (wthn deep (s.data.toList.drop p)) w e w' := by
  by_cases h8 : 8 < deep
  · have HE : Hid (wthn deep (s.data.toList.drop p) = none) := Lib.hid (by unfold wthn; rw [if_pos h8])
    have h8i : decide ((deep : Int) ≤ 8) = false := by simp; omega
    clear IH
    go_enter Tryz.func89, Tryz.ntmps89
    go_wp2_with fail
    try rw [h8i]
    refine (checkShape_bad _).mono ?_
    rintro e w3 ⟨⟨pb, rfl, hd1⟩, hb3⟩
    go_wp2_with fail
    refine ⟨rfl, ?_⟩
    exact its_none HE.out ⟨pb, rfl, hd1⟩ hb3
  · have h8i : decide ((deep : Int) ≤ 8) = true := by simp; omega
    cases hx : prs deep (s.data.toList.drop p) with
    | none =>
      have HE : Hid (wthn deep (s.data.toList.drop p) = none) := Lib.hid (by unfold wthn; rw [if_neg h8, hx])
      have HR : Hid (∀ w, Calls Tryz.prog 64 #[.string s, .int .i64 (p : Int), .int .i64 (deep : Int)] w fun e w' => Dies 40 0 w e w' ∧ Below w.heap.size w w') := Lib.hid (fun w => (IH w).mono (fun e w' h => by rw [hx] at h; exact h))
      clear IH hx
      go_enter Tryz.func89, Tryz.ntmps89
      go_wp2_with fail
      try rw [h8i]
      refine (checkShape_ok _).mono ?_
      rintro e w3 ⟨rfl, rfl⟩
      go_wp2_with fail
      refine (HR.out _).mono ?_
      rintro e w3 ⟨⟨pb, rfl, hd1⟩, hb3⟩
      have HD := Lib.hid hd1
      have HB3 := Lib.hid hb3
      clear hd1 hb3
      go_wp2_with fail
      refine ⟨rfl, ?_⟩
      exact its_none HE.out ⟨pb, rfl, HD.out⟩ HB3.out
    | some y =>
      obtain ⟨inn, q⟩ := y
      obtain ⟨pre, hpre, hq⟩ := prs_left hx
      have hql := congrArg List.length hpre
      rw [drop_len, List.length_append] at hql
      have HR0 : Hid (∀ w, Calls Tryz.prog 64 #[.string s, .int .i64 (p : Int), .int .i64 (deep : Int)] w fun e w' => ∃ (a : Option Addr) (c : Nat), e = .returned (.tuple #[.slice a inn.length c, .int .i64 ((s.size - q.length : Nat) : Int)]) ∧ ItsZ w' (fun k => w.heap.size ≤ k ∧ k < w'.heap.size) inn a inn.length ∧ Below w.heap.size w w') := Lib.hid (fun w => (IH w).mono (fun e w' h => by rw [hx] at h; obtain ⟨a, c, h1, h2, h3⟩ := h; have hE : (s.size : Int) - (q.length : Int) = ((s.size - q.length : Nat) : Int) := (by omega); rw [hE] at h1; exact ⟨a, c, h1, h2, h3⟩))
      have hE := wthn_some h8 hx
      obtain ⟨en, hen⟩ : ∃ en, en = s.size - q.length := ⟨_, rfl⟩
      rw [← hen] at HR0
      by_cases hok : inn ≠ [] ∧ q ≠ []
      · obtain ⟨c', q', rfl⟩ := List.exists_cons_of_ne_nil hok.2
        simp only [wthnOf, if_neg hok.1] at hE
        have HE := Lib.hid hE
        have hin : (0 : Int) < (inn.length : Int) := by have := List.length_pos_iff.2 hok.1; omega
        simp only [List.length_cons] at hen
        have hens : (en : Int) < (s.size : Int) := by simp only [List.length_cons] at hql; omega
        have hen1 : Hid ((en : Int) + 1 = (s.size : Int) - (q'.length : Int)) := Lib.hid (by simp only [List.length_cons] at hql; omega)
        clear IH hx hE hpre hq hok hen
        go_enter Tryz.func89, Tryz.ntmps89
        go_wp2_with fail
        try rw [h8i]
        refine (checkShape_ok _).mono ?_
        rintro e w3 ⟨rfl, rfl⟩
        go_wp2_with fail
        refine (HR0.out _).mono ?_
        rintro e w3 ⟨xa, xc, rfl, hi3, hb3⟩
        have HI3 := Lib.hid hi3
        have HB3 := Lib.hid hb3
        clear hi3 hb3
        go_wp2_with fail
        refine (checkShape_ok _).mono ?_
        rintro e w4 ⟨rfl, rfl⟩
        go_wp2_with fail
        refine bodyPost_ret (v := .tuple #[.slice xa inn.length xc, .int .i64 ((en : Int) + 1)]) (by simp [results, Tryz.results89, go_sem]) rfl ?_
        rw [HE.out, hen1.out]
        exact ⟨xa, xc, rfl, HI3.out, HB3.out⟩
      · have HE : Hid (wthn deep (s.data.toList.drop p) = none) := Lib.hid (by
          rw [hE]
          cases q with
          | nil => rfl
          | cons c' q' =>
            by_cases hi0 : inn = []
            · simp [wthnOf, hi0]
            · exact absurd ⟨hi0, by simp⟩ hok)
        have hok2 : ¬ ((0 : Int) < (inn.length : Int)) ∨ ¬ ((en : Int) < (s.size : Int)) := by
          cases q with
          | nil => right; simp at hen; omega
          | cons c' q' =>
            left
            by_cases hi0 : inn = []
            · subst hi0; simp
            · exact absurd ⟨hi0, by simp⟩ hok
        clear IH hx hE hpre hq hok hen
        by_cases hin : (0 : Int) < (inn.length : Int)
        · have hens : ¬ ((en : Int) < (s.size : Int)) := by rcases hok2 with h | h; exact absurd hin h; exact h
          have hensd : decide (en < s.size) = false := by simp; omega
          go_enter Tryz.func89, Tryz.ntmps89
          go_wp2_with fail
          try rw [h8i]
          refine (checkShape_ok _).mono ?_
          rintro e w3 ⟨rfl, rfl⟩
          go_wp2_with fail
          refine (HR0.out _).mono ?_
          rintro e w3 ⟨xa, xc, rfl, hi3, hb3⟩
          have HB3 := Lib.hid hb3
          clear hi3 hb3
          go_wp2_with fail
          try rw [hensd]
          refine (checkShape_bad _).mono ?_
          rintro e w4 ⟨⟨pb, rfl, hd1⟩, hb4⟩
          have HD := Lib.hid hd1
          have HB4 := Lib.hid hb4
          clear hd1 hb4
          go_wp2_with fail
          refine ⟨rfl, ?_⟩
          exact its_none HE.out ⟨pb, rfl, Nat.le_trans HB3.out.size HD.out.1, HD.out.2⟩ (HB3.out.trans (HB4.out.mono HB3.out.size))
        · go_enter Tryz.func89, Tryz.ntmps89
          go_wp2_with fail
          try rw [h8i]
          refine (checkShape_ok _).mono ?_
          rintro e w3 ⟨rfl, rfl⟩
          go_wp2_with fail
          refine (HR0.out _).mono ?_
          rintro e w3 ⟨xa, xc, rfl, hi3, hb3⟩
          have HB3 := Lib.hid hb3
          clear hi3 hb3
          go_wp2_with fail
          refine (checkShape_bad _).mono ?_
          rintro e w4 ⟨⟨pb, rfl, hd1⟩, hb4⟩
          have HD := Lib.hid hd1
          have HB4 := Lib.hid hb4
          clear hd1 hb4
          go_wp2_with fail
          refine ⟨rfl, ?_⟩
          exact its_none HE.out ⟨pb, rfl, Nat.le_trans HB3.out.size HD.out.1, HD.out.2⟩ (HB3.out.trans (HB4.out.mono HB3.out.size))

theorem itemsAt_all (s : ByteArray) (hs : s.size ≤ 256) : ∀ (k p deep : Nat), s.size - p ≤ k → p ≤ s.size → deep ≤ p → ∀ w, Calls Tryz.prog 64 #[.string s, .int .i64 (p : Int), .int .i64 (deep : Int)] w fun e w' => ItsEnds s (prs deep (s.data.toList.drop p)) w e w' := by
  intro k
  induction k with
  | zero => intro p deep hk hp hd w; exact itemsAt_any s hs p deep hp hd (fun p' d h1 h2 => by omega) w
  | succ k ih => intro p deep hk hp hd w; exact itemsAt_any s hs p deep hp hd (fun p' d h1 h2 h3 w => withinAt_any s hs p' d h2 (fun w => ih p' d (by omega) h2 h3 w) w) w
end Go.Proofs.YtidfgjgbigedeaaGreatDoor
