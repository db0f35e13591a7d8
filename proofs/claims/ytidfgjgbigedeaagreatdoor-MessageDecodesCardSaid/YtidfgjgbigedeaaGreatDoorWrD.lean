/- The reference's items: a text's items, built by appending. -/
import Derived.Test.YtidfgjgbigedeaaGreatDoorWrA
import Derived.Test.YtidfgjgbigedeaaGreatDoorWqAll
import Derived.RegionCalls
import Derived.Deep.RegionWith
namespace Go.Proofs.YtidfgjgbigedeaaGreatDoor
open Go.RowKit Go.Lib Go.Wq
set_option linter.unusedVariables false
set_option linter.unusedSimpArgs false
set_option maxRecDepth 100000

theorem infoIt : ∃ (i : TypeInfo) (z : Value), Tryz.prog.info? 105 = some i ∧ i.zero = some z ∧ i.size = 2 ∧ i.bytes = 32 ∧ z.cells.size = 2 := by
  refine ⟨_, _, rfl, rfl, ?_, ?_, ?_⟩ <;> kernel_rfl

/-- How items ends. -/
def ItemsEnds (s : ByteArray) (x : Option (List It × List UInt8)) (w : World) (e : Ending) (w' : World) : Prop :=
  match x with
  | some (l, q) => ∃ (a : Option Addr) (c : Nat), e = .returned (.tuple #[.slice a l.length c, .int .i64 ((s.size : Int) - (q.length : Int)), .bool true]) ∧ ItsZ w' (fun k => w.heap.size ≤ k ∧ k < w'.heap.size) l a l.length ∧ Below w.heap.size w w'
  | none => e = .returned (.tuple #[.slice none 0 0, .int .i64 0, .bool false]) ∧ Below w.heap.size w w'

theorem ends_some {s : ByteArray} {m : List It} {q : List UInt8} {x : Option (List It × List UInt8)} {w w' : World} {v : Value} {xs : List Value} {n : Int} (hx : x = some (m, q)) (ho : w'.ownsRow w.heap.size 105 2 v m.length xs) (hh : HoldsZ w' (Mine w.heap.size w' v) xs m)
    (hb : Below w.heap.size w w') (hn : n = (s.size : Int) - (q.length : Int)) : ItemsEnds s x w (.returned (.tuple #[v, .int .i64 n, .bool true])) w' := by
  subst hx; subst hn
  obtain ⟨a, c, rfl, h⟩ := own_itsZ ho hh
  exact ⟨a, c, rfl, h, hb⟩
theorem ends_none {s : ByteArray} {x : Option (List It × List UInt8)} {w w' : World} (hx : x = none) (hb : Below w.heap.size w w') : ItemsEnds s x w (.returned (.tuple #[.slice none 0 0, .int .i64 0, .bool false])) w' := by
  subst hx; exact ⟨rfl, hb⟩

set_option maxHeartbeats 4000000 in
set_option maxRecDepth 100000 in
theorem items_any (s : ByteArray) (hs : s.size ≤ 256) (p0 deep : Nat) (hp0 : p0 ≤ s.size) (hd : deep ≤ p0)
    (IH : ∀ p d, p0 < p → p ≤ s.size → d ≤ p → ∀ w, Calls Tryz.prog 69 #[.string s, .int .i64 (p : Int), .int .i64 (d : Int)] w fun e w' => ItemsEnds s (prs d (s.data.toList.drop p)) w e w') (w : World) :
    Calls Tryz.prog 69 #[.string s, .int .i64 (p0 : Int), .int .i64 (deep : Int)] w fun e w' => ItemsEnds s (prs deep (s.data.toList.drop p0)) w e w' := by
  obtain ⟨i0, z0, hi, hz0, hz1, hz2, hz3⟩ := infoIt
  have IH2 := Lib.hid IH
  clear IH
  go_enter Tryz.func69, Tryz.ntmps69
  go_wp2
  go_loopw [1, 9] (fun i v wr => ∃ (p : Nat) (m : List It) (xs : List Value), p0 ≤ p ∧ p ≤ s.size ∧ i = .int .i64 (p : Int) ∧ wr.ownsRow w.heap.size 105 2 v m.length xs ∧ HoldsZ wr (Mine w.heap.size wr v) xs m ∧ prs deep (s.data.toList.drop p0) = aheadOf m (prs deep (s.data.toList.drop p)) ∧ Below w.heap.size w wr ∧ m.length ≤ p) (fun i _ _ => s.size - (intOf i).toNat)
  case atStart => exact ⟨p0, [], [], Nat.le_refl _, hp0, rfl, World.ownsRow_nil _ _ _ _, .nil, by rw [aheadOf_nil], Below.refl _ _, Nat.zero_le _⟩
  case round =>
    obtain ⟨p, m, xs, hpp, hps, rfl, hown, hholds, hprs, hb, hml⟩ := hrel
    by_cases hlt : p < s.size
    · have hix : 0 ≤ (p : Int) ∧ (p : Int) < (s.size : Int) := by omega
      have hixx := hix.2
      have hdrop := drop_cons s p hlt
      have HO := Lib.hid hown
      have HH := Lib.hid hholds
      have HB := Lib.hid hb
      have hszb := hb.size
      have H63 : Hid (m.length + 1 ≤ maxLen) := Lib.hid (by unfold maxLen; omega)
      have H47 : Hid ((m.length + 1) * 32 ≤ 140737488355328) := Lib.hid (by omega)
      have HCS : Hid (∀ (W : World) (cv : Int) (sv : Value) (j : Nat) (u : Value), ([.int .u8 cv, sv] : List Value)[j]? = some u → (W.alloc (.cells #[.int .u8 cv, sv] 105)).cell? ((⟨W.heap.size, 0, none⟩ : Addr).add j) = some u) := Lib.hid (by
        intro W cv sv j u hj
        match j with
        | 0 => simp at hj; subst hj; simp [Addr.add]
        | 1 => simp at hj; subst hj; simp [Addr.add]
        | j + 2 => simp at hj)
      by_cases h41 : s[p]'hlt = 41
      · have hcI : ((s[p]'hlt).toNat : Int) = 41 := by rw [h41]; rfl
        have HE : Hid (prs deep (s.data.toList.drop p0) = some (m, s.data.toList.drop p)) := Lib.hid (by rw [hprs, hdrop, h41, prs_close]; simp [aheadOf])
        clear hholds hown hb hprs hdrop
        go_wp2_with fail
        refine bodyPost_ret (v := .tuple #[u9, .int .i64 (p : Int), .bool true]) (by simp [results, Tryz.results69, go_sem]) rfl ?_
        exact ends_some HE.out HO.out HH.out HB.out (by rw [drop_len]; omega)
      · have hn41 : ¬ ((s[p]'hlt).toNat : Int) = 41 := fun h => h41 (by apply UInt8.toNat_inj.1; exact_mod_cast h)
        by_cases hc117 : s[p]'hlt = 117
        · have hc := hc117
          have hcI : ((s[p]'hlt).toNat : Int) = 117 := by rw [hc]; rfl
          have HL : Hid (prs deep (s.data.toList.drop p0) = aheadOf (m ++ [It.u]) (prs deep (s.data.toList.drop (p + 1)))) := Lib.hid (by rw [hprs, hdrop, hc, prs_letter (it := It.u) rfl (by decide), aheadOf_snoc])
          have HSN := Lib.hid (fun (w' : World) (v' : Value) (hh : HoldsZ w' (Mine w.heap.size w' v') xs m) => hh.snoc It.u none 0 0 (by simp [It.inner, ItsZ]))
          clear hholds hown hb hprs hdrop hc
          go_wp2_with (at_builtin; refine wpList_append_vals _ rfl _ _ 73 rfl w.heap.size 105 i0 z0 2 32 Tryz.underlying73 hi hz0 hz1 hz2 hz3 (by decide) _ m.length xs rfl (HO.out.alloc _) ⟨wr.heap.size, 0, none⟩ 1 1 [.int .u8 117, .slice none 0 0] rfl rfl (HCS.out wr 117 (.slice none 0 0)) (by intro u hu; simp at hu; rcases hu with rfl | rfl <;> rfl) H63.out H47.out (by simp; omega) ?_; intro v' w3 hown hg; have HO2 := Lib.hid hown; have HG := Lib.hid hg; clear hown hg)
          exact ⟨⟨p + 1, m ++ [It.u], xs ++ [.int .u8 117, .slice none 0 0], by omega, by omega, by simp, by rw [List.length_append]; exact HO2.out, HSN.out w3 v' ((HH.out.grew (Grew.alloc wr _ _)).grew HG.out), HL.out,
            (HB.out.alloc hszb _).trans (HG.out.below (by simp; omega) (fun k hk => (HO.out.lt k hk).1)), by simp; omega⟩, by simp [intOf]; omega⟩
        · have hn117 : ¬ ((s[p]'hlt).toNat : Int) = 117 := fun h => hc117 (by apply UInt8.toNat_inj.1; exact_mod_cast h)
          by_cases hc105 : s[p]'hlt = 105
          · have hc := hc105
            have hcI : ((s[p]'hlt).toNat : Int) = 105 := by rw [hc]; rfl
            have HL : Hid (prs deep (s.data.toList.drop p0) = aheadOf (m ++ [It.i]) (prs deep (s.data.toList.drop (p + 1)))) := Lib.hid (by rw [hprs, hdrop, hc, prs_letter (it := It.i) rfl (by decide), aheadOf_snoc])
            have HSN := Lib.hid (fun (w' : World) (v' : Value) (hh : HoldsZ w' (Mine w.heap.size w' v') xs m) => hh.snoc It.i none 0 0 (by simp [It.inner, ItsZ]))
            clear hholds hown hb hprs hdrop hc
            go_wp2_with (at_builtin; refine wpList_append_vals _ rfl _ _ 73 rfl w.heap.size 105 i0 z0 2 32 Tryz.underlying73 hi hz0 hz1 hz2 hz3 (by decide) _ m.length xs rfl (HO.out.alloc _) ⟨wr.heap.size, 0, none⟩ 1 1 [.int .u8 105, .slice none 0 0] rfl rfl (HCS.out wr 105 (.slice none 0 0)) (by intro u hu; simp at hu; rcases hu with rfl | rfl <;> rfl) H63.out H47.out (by simp; omega) ?_; intro v' w3 hown hg; have HO2 := Lib.hid hown; have HG := Lib.hid hg; clear hown hg)
            exact ⟨⟨p + 1, m ++ [It.i], xs ++ [.int .u8 105, .slice none 0 0], by omega, by omega, by simp, by rw [List.length_append]; exact HO2.out, HSN.out w3 v' ((HH.out.grew (Grew.alloc wr _ _)).grew HG.out), HL.out,
              (HB.out.alloc hszb _).trans (HG.out.below (by simp; omega) (fun k hk => (HO.out.lt k hk).1)), by simp; omega⟩, by simp [intOf]; omega⟩
          · have hn105 : ¬ ((s[p]'hlt).toNat : Int) = 105 := fun h => hc105 (by apply UInt8.toNat_inj.1; exact_mod_cast h)
            by_cases hc102 : s[p]'hlt = 102
            · have hc := hc102
              have hcI : ((s[p]'hlt).toNat : Int) = 102 := by rw [hc]; rfl
              have HL : Hid (prs deep (s.data.toList.drop p0) = aheadOf (m ++ [It.f]) (prs deep (s.data.toList.drop (p + 1)))) := Lib.hid (by rw [hprs, hdrop, hc, prs_letter (it := It.f) rfl (by decide), aheadOf_snoc])
              have HSN := Lib.hid (fun (w' : World) (v' : Value) (hh : HoldsZ w' (Mine w.heap.size w' v') xs m) => hh.snoc It.f none 0 0 (by simp [It.inner, ItsZ]))
              clear hholds hown hb hprs hdrop hc
              go_wp2_with (at_builtin; refine wpList_append_vals _ rfl _ _ 73 rfl w.heap.size 105 i0 z0 2 32 Tryz.underlying73 hi hz0 hz1 hz2 hz3 (by decide) _ m.length xs rfl (HO.out.alloc _) ⟨wr.heap.size, 0, none⟩ 1 1 [.int .u8 102, .slice none 0 0] rfl rfl (HCS.out wr 102 (.slice none 0 0)) (by intro u hu; simp at hu; rcases hu with rfl | rfl <;> rfl) H63.out H47.out (by simp; omega) ?_; intro v' w3 hown hg; have HO2 := Lib.hid hown; have HG := Lib.hid hg; clear hown hg)
              exact ⟨⟨p + 1, m ++ [It.f], xs ++ [.int .u8 102, .slice none 0 0], by omega, by omega, by simp, by rw [List.length_append]; exact HO2.out, HSN.out w3 v' ((HH.out.grew (Grew.alloc wr _ _)).grew HG.out), HL.out,
                (HB.out.alloc hszb _).trans (HG.out.below (by simp; omega) (fun k hk => (HO.out.lt k hk).1)), by simp; omega⟩, by simp [intOf]; omega⟩
            · have hn102 : ¬ ((s[p]'hlt).toNat : Int) = 102 := fun h => hc102 (by apply UInt8.toNat_inj.1; exact_mod_cast h)
              by_cases hc98 : s[p]'hlt = 98
              · have hc := hc98
                have hcI : ((s[p]'hlt).toNat : Int) = 98 := by rw [hc]; rfl
                have HL : Hid (prs deep (s.data.toList.drop p0) = aheadOf (m ++ [It.b]) (prs deep (s.data.toList.drop (p + 1)))) := Lib.hid (by rw [hprs, hdrop, hc, prs_letter (it := It.b) rfl (by decide), aheadOf_snoc])
                have HSN := Lib.hid (fun (w' : World) (v' : Value) (hh : HoldsZ w' (Mine w.heap.size w' v') xs m) => hh.snoc It.b none 0 0 (by simp [It.inner, ItsZ]))
                clear hholds hown hb hprs hdrop hc
                go_wp2_with (at_builtin; refine wpList_append_vals _ rfl _ _ 73 rfl w.heap.size 105 i0 z0 2 32 Tryz.underlying73 hi hz0 hz1 hz2 hz3 (by decide) _ m.length xs rfl (HO.out.alloc _) ⟨wr.heap.size, 0, none⟩ 1 1 [.int .u8 98, .slice none 0 0] rfl rfl (HCS.out wr 98 (.slice none 0 0)) (by intro u hu; simp at hu; rcases hu with rfl | rfl <;> rfl) H63.out H47.out (by simp; omega) ?_; intro v' w3 hown hg; have HO2 := Lib.hid hown; have HG := Lib.hid hg; clear hown hg)
                exact ⟨⟨p + 1, m ++ [It.b], xs ++ [.int .u8 98, .slice none 0 0], by omega, by omega, by simp, by rw [List.length_append]; exact HO2.out, HSN.out w3 v' ((HH.out.grew (Grew.alloc wr _ _)).grew HG.out), HL.out,
                  (HB.out.alloc hszb _).trans (HG.out.below (by simp; omega) (fun k hk => (HO.out.lt k hk).1)), by simp; omega⟩, by simp [intOf]; omega⟩
              · have hn98 : ¬ ((s[p]'hlt).toNat : Int) = 98 := fun h => hc98 (by apply UInt8.toNat_inj.1; exact_mod_cast h)
                by_cases hc116 : s[p]'hlt = 116
                · have hc := hc116
                  have hcI : ((s[p]'hlt).toNat : Int) = 116 := by rw [hc]; rfl
                  have HL : Hid (prs deep (s.data.toList.drop p0) = aheadOf (m ++ [It.t]) (prs deep (s.data.toList.drop (p + 1)))) := Lib.hid (by rw [hprs, hdrop, hc, prs_letter (it := It.t) rfl (by decide), aheadOf_snoc])
                  have HSN := Lib.hid (fun (w' : World) (v' : Value) (hh : HoldsZ w' (Mine w.heap.size w' v') xs m) => hh.snoc It.t none 0 0 (by simp [It.inner, ItsZ]))
                  clear hholds hown hb hprs hdrop hc
                  go_wp2_with (at_builtin; refine wpList_append_vals _ rfl _ _ 73 rfl w.heap.size 105 i0 z0 2 32 Tryz.underlying73 hi hz0 hz1 hz2 hz3 (by decide) _ m.length xs rfl (HO.out.alloc _) ⟨wr.heap.size, 0, none⟩ 1 1 [.int .u8 116, .slice none 0 0] rfl rfl (HCS.out wr 116 (.slice none 0 0)) (by intro u hu; simp at hu; rcases hu with rfl | rfl <;> rfl) H63.out H47.out (by simp; omega) ?_; intro v' w3 hown hg; have HO2 := Lib.hid hown; have HG := Lib.hid hg; clear hown hg)
                  exact ⟨⟨p + 1, m ++ [It.t], xs ++ [.int .u8 116, .slice none 0 0], by omega, by omega, by simp, by rw [List.length_append]; exact HO2.out, HSN.out w3 v' ((HH.out.grew (Grew.alloc wr _ _)).grew HG.out), HL.out,
                    (HB.out.alloc hszb _).trans (HG.out.below (by simp; omega) (fun k hk => (HO.out.lt k hk).1)), by simp; omega⟩, by simp [intOf]; omega⟩
                · have hn116 : ¬ ((s[p]'hlt).toNat : Int) = 116 := fun h => hc116 (by apply UInt8.toNat_inj.1; exact_mod_cast h)
                  by_cases hc : s[p]'hlt = 40
                  · have hcI : ((s[p]'hlt).toNat : Int) = 40 := by rw [hc]; rfl
                    have HREC : Hid (∀ w, Calls Tryz.prog 69 #[.string s, .int .i64 ((p : Int) + 1), .int .i64 ((deep : Int) + 1)] w fun e w' => ItemsEnds s (prs (deep + 1) (s.data.toList.drop (p + 1))) w e w') := Lib.hid (fun w => by have h := IH2.out (p + 1) (deep + 1) (by omega) (by omega) (by omega) w; simp only [Int.natCast_add, Int.natCast_one] at h; exact h)
                    cases hx : prs (deep + 1) (s.data.toList.drop (p + 1)) with
                    | none =>
                      have HE : Hid (prs deep (s.data.toList.drop p0) = none) := Lib.hid (by rw [hprs, hdrop, hc, prs_open, hx]; rfl)
                      have HR : Hid (∀ w, Calls Tryz.prog 69 #[.string s, .int .i64 ((p : Int) + 1), .int .i64 ((deep : Int) + 1)] w fun e w' => e = .returned (.tuple #[.slice none 0 0, .int .i64 0, .bool false]) ∧ Below w.heap.size w w') := Lib.hid (fun w => (HREC.out w).mono (fun e w' h => by rw [hx] at h; exact h))
                      clear hholds hown hprs hdrop hx
                      go_wp2_with (go_at_call 69; refine (HR.out _).mono ?_; rintro e w3 ⟨rfl, hb3⟩)
                      refine bodyPost_ret (v := .tuple #[.slice none 0 0, .int .i64 0, .bool false]) (by simp [results, Tryz.results69, go_sem]) rfl ?_
                      exact ends_none HE.out (HB.out.trans (hb3.mono hszb))
                    | some y =>
                      obtain ⟨inn, q⟩ := y
                      obtain ⟨pre, hpre, hq⟩ := prs_left hx
                      have hql := congrArg List.length hpre
                      rw [drop_len, List.length_append] at hql
                      cases q with
                      | nil =>
                        have HE : Hid (prs deep (s.data.toList.drop p0) = none) := Lib.hid (by rw [hprs, hdrop, hc, prs_open, hx]; rfl)
                        have HR : Hid (∀ w, Calls Tryz.prog 69 #[.string s, .int .i64 ((p : Int) + 1), .int .i64 ((deep : Int) + 1)] w fun e w' => ∃ (a : Option Addr) (c : Nat), e = .returned (.tuple #[.slice a inn.length c, .int .i64 (s.size : Int), .bool true]) ∧ Below w.heap.size w w') := Lib.hid (fun w => (HREC.out w).mono (fun e w' h => by rw [hx] at h; obtain ⟨a, c, h1, h2, h3⟩ := h; exact ⟨a, c, by simpa using h1, h3⟩))
                        clear hholds hown hprs hdrop hx hpre hq hql HREC
                        go_wp2_with (go_at_call 69; refine (HR.out _).mono ?_; rintro e w3 ⟨xa, xc, rfl, hb3⟩)
                        refine bodyPost_ret (v := .tuple #[.slice none 0 0, .int .i64 0, .bool false]) (by simp [results, Tryz.results69, go_sem]) rfl ?_
                        exact ends_none HE.out (HB.out.trans (hb3.mono hszb))
                      | cons c' r' =>
                        simp only [List.length_cons] at hql
                        have HR0 : Hid (∀ w, Calls Tryz.prog 69 #[.string s, .int .i64 ((p : Int) + 1), .int .i64 ((deep : Int) + 1)] w fun e w' => ∃ (a : Option Addr) (c : Nat), e = .returned (.tuple #[.slice a inn.length c, .int .i64 ((s.size - r'.length - 1 : Nat) : Int), .bool true]) ∧ ItsZ w' (fun k => w.heap.size ≤ k ∧ k < w'.heap.size) inn a inn.length ∧ Below w.heap.size w w') := Lib.hid (fun w => (HREC.out w).mono (fun e w' h => by rw [hx] at h; obtain ⟨a, c, h1, h2, h3⟩ := h; have hE : (s.size : Int) - ((c' :: r').length : Int) = ((s.size - r'.length - 1 : Nat) : Int) := (by simp only [List.length_cons]; omega); rw [hE] at h1; exact ⟨a, c, h1, h2, h3⟩))
                        obtain ⟨en, hen⟩ : ∃ en, en = s.size - r'.length - 1 := ⟨_, rfl⟩
                        rw [← hen] at HR0
                        have hlen : ¬ (s.size : Int) ≤ (en : Int) := by omega
                        by_cases hinn : inn = []
                        · have HE : Hid (prs deep (s.data.toList.drop p0) = none) := Lib.hid (by rw [hprs, hdrop, hc, prs_open, hx]; simp only [if_pos (Or.inl hinn : inn = [] ∨ 8 < deep + 1)]; rfl)
                          subst hinn
                          have HR := HR0
                          clear hholds hown hprs hdrop hx hpre hq hql HREC HR0
                          go_wp2_with (go_at_call 69; refine (HR.out _).mono ?_; rintro e w3 ⟨xa, xc, rfl, hi3, hb3⟩)
                          refine bodyPost_ret (v := .tuple #[.slice none 0 0, .int .i64 0, .bool false]) (by simp [results, Tryz.results69, go_sem]) rfl ?_
                          exact ends_none HE.out (HB.out.trans (hb3.mono hszb))
                        · have hin0 : ((inn.length : Int) == 0) = false := by cases inn with | nil => exact absurd rfl hinn | cons a b => simp; omega
                          by_cases h8 : 8 < deep + 1
                          · have HE : Hid (prs deep (s.data.toList.drop p0) = none) := Lib.hid (by rw [hprs, hdrop, hc, prs_open, hx]; simp only [if_pos (Or.inr h8 : inn = [] ∨ 8 < deep + 1)]; rfl)
                            have h8i : (8 : Int) < (deep : Int) + 1 := by omega
                            have HR := HR0
                            clear hholds hown hprs hdrop hx hpre hq hql HREC HR0 hinn
                            go_wp2_with (go_at_call 69; refine (HR.out _).mono ?_; rintro e w3 ⟨xa, xc, rfl, hi3, hb3⟩)
                            refine bodyPost_ret (v := .tuple #[.slice none 0 0, .int .i64 0, .bool false]) (by simp [results, Tryz.results69, go_sem]) rfl ?_
                            exact ends_none HE.out (HB.out.trans (hb3.mono hszb))
                          · have hdb := drop_back hpre
                            have hen1 : en + 1 = s.size - r'.length := by omega
                            rw [← hen1] at hdb
                            have HE : Hid (prs deep (s.data.toList.drop p0) = aheadOf (m ++ [It.l inn]) (prs deep (s.data.toList.drop (en + 1)))) := Lib.hid (by rw [hprs, hdrop, hc, prs_open, hx, hdb, aheadOf_snoc]; simp only [if_neg (fun h => by rcases h with h | h; exact hinn h; exact h8 h : ¬ (inn = [] ∨ 8 < deep + 1))])
                            have h8i : ¬ (8 : Int) < (deep : Int) + 1 := by omega
                            have hens : en + 1 ≤ s.size := by omega
                            have henp : p < en + 1 := by omega
                            have HR := HR0
                            have HLT : Hid (∀ k, Value.ownBlock u9 = some k → w.heap.size ≤ k ∧ k < wr.heap.size) := Lib.hid HO.out.lt
                            clear hholds hown hprs hdrop hx hpre hq hql HREC HR0 hinn hdb hen hen1
                            go_wp2_with (first | (go_at_call 69; refine (HR.out _).mono ?_; rintro e w3 ⟨xa, xc, rfl, hi3, hb3⟩; have HO3 := Lib.hid (own_kept HO.out hb3); have HI3 := Lib.hid hi3; have hs3 := hb3.size; have HB3 := Lib.hid hb3; clear hi3 hb3) | (at_builtin; refine wpList_append_vals _ rfl _ _ 73 rfl w.heap.size 105 i0 z0 2 32 Tryz.underlying73 hi hz0 hz1 hz2 hz3 (by decide) _ m.length xs rfl (HO3.out.alloc _) ⟨w3.heap.size, 0, none⟩ 1 1 [.int .u8 40, .slice xa inn.length xc] rfl rfl (HCS.out w3 40 (.slice xa inn.length xc)) (by intro u hu; simp at hu; rcases hu with rfl | rfl <;> rfl) H63.out H47.out (by simp; omega) ?_; intro v' w4 hown hg; have HO2 := Lib.hid hown; have HG := Lib.hid hg; clear hown hg))
                            have HG4 : Grew wr w4 u9 v' := ((Grew.of_below u9 HB3.out).trans (Grew.alloc w3 _ u9)).trans HG.out
                            have HN : ItsZ w4 (Mine w.heap.size w4 v') inn xa inn.length := ItsZ.kept (w := w3) (fun k hk => by
                                have h1 : k < w3.heap.size := hk.2
                                have h2 : Value.ownBlock u9 ≠ some k := fun e => by have := (HLT.out k e).2; have := hk.1; omega
                                rw [HG.out.g.block k (by simp; omega) (fun e => h2 e.symm)]
                                exact Below.heap_alloc _ _ _ h1) (fun k hk => by
                                have h2 : Value.ownBlock u9 ≠ some k := fun e => by have := (HLT.out k e).2; have := hk.1; omega
                                have h3 := HG.out.g.size
                                simp at h3
                                exact ⟨by have := hk.1; omega, by have := hk.2; omega, HG.out.other (by have := hk.2; simp; omega) h2⟩) _ _ _ HI3.out
                            exact ⟨⟨en + 1, m ++ [It.l inn], xs ++ [.int .u8 40, .slice xa inn.length xc], by omega, by omega, by simp, by rw [List.length_append]; exact HO2.out,
                              (HH.out.grew HG4).snoc (It.l inn) xa inn.length xc HN, HE.out,
                              HB.out.trans (HG4.below hszb (fun k hk => (HLT.out k hk).1)), by simp; omega⟩, by simp [intOf]; omega⟩
                  · have hn40 : ¬ ((s[p]'hlt).toNat : Int) = 40 := fun h => hc (by apply UInt8.toNat_inj.1; exact_mod_cast h)
                    have HE : Hid (prs deep (s.data.toList.drop p0) = none) := Lib.hid (by
                      rw [hprs, hdrop, prs_bad (by unfold letter; simp [*]) h41 hc]; rfl)
                    clear hholds hown hprs hdrop
                    go_wp2_with fail
                    refine bodyPost_ret (v := .tuple #[.slice none 0 0, .int .i64 0, .bool false]) (by simp [results, Tryz.results69, go_sem]) rfl ?_
                    exact ends_none HE.out HB.out
    · have HE : Hid (prs deep (s.data.toList.drop p0) = some (m, s.data.toList.drop p)) := Lib.hid (by rw [hprs, drop_end s p hlt, prs_nil]; simp [aheadOf])
      have HO := Lib.hid hown
      have HH := Lib.hid hholds
      have HB := Lib.hid hb
      have hnl : ¬ (p : Int) < (s.size : Int) := by omega
      clear hown hholds hb hprs
      go_wp2_with fail
      refine bodyPost_ret (v := .tuple #[u9, .int .i64 (p : Int), .bool true]) (by simp [results, Tryz.results69, go_sem]) rfl ?_
      exact ends_some HE.out HO.out HH.out HB.out (by rw [drop_len]; omega)

theorem items_all (s : ByteArray) (hs : s.size ≤ 256) : ∀ (k p deep : Nat), s.size - p ≤ k → p ≤ s.size → deep ≤ p → ∀ w, Calls Tryz.prog 69 #[.string s, .int .i64 (p : Int), .int .i64 (deep : Int)] w fun e w' => ItemsEnds s (prs deep (s.data.toList.drop p)) w e w' := by
  intro k
  induction k with
  | zero => intro p deep hk hp hd w; exact items_any s hs p deep hp hd (fun p' d h1 h2 => by omega) w
  | succ k ih => intro p deep hk hp hd w; exact items_any s hs p deep hp hd (fun p' d h1 h2 h3 w => ih p' d (by omega) h2 h3 w) w

/-- How shaped ends. -/
def ShapedEnds (s : ByteArray) (w : World) (e : Ending) (w' : World) : Prop :=
  match Go.Wq.shape s.data.toList with
  | some l => ∃ (a : Option Addr) (c : Nat), e = .returned (.tuple #[.slice a l.length c, .bool true]) ∧ ItsZ w' (fun k => w.heap.size ≤ k ∧ k < w'.heap.size) l a l.length ∧ Below w.heap.size w w'
  | none => ∃ v : Value, e = .returned (.tuple #[v, .bool false]) ∧ Below w.heap.size w w'
theorem shaped_any (s : ByteArray) (hs : s.size ≤ 140737488351232) (w : World) : Calls Tryz.prog 41 #[.string s] w fun e w' => ShapedEnds s w e w' := by
  have hsl : s.data.toList.length = s.size := by rw [Array.length_toList]; rfl
  by_cases hbig : 256 < s.size
  · have HN : Hid (Go.Wq.shape s.data.toList = none) := Lib.hid (by unfold Go.Wq.shape; rw [if_pos (by omega)])
    have hbi : (256 : Int) < (s.size : Int) := by omega
    clear hsl
    go_enter Tryz.func41, Tryz.ntmps41
    go_wp2_with fail
    refine bodyPost_ret (v := .tuple #[.slice none 0 0, .bool false]) (by simp [results, Tryz.results41, go_sem]) rfl ?_
    unfold ShapedEnds; rw [HN.out]; exact ⟨_, rfl, Below.refl _ _⟩
  · have hbi : ¬ (256 : Int) < (s.size : Int) := by omega
    have HI := items_all s (by omega) s.size 0 0 (by omega) (by omega) (by omega)
    have hpr : prs 0 (s.data.toList.drop 0) = parse (s.data.toList.length + 1) 0 s.data.toList := rfl
    cases hx : prs 0 (s.data.toList.drop 0) with
    | none =>
      have HN : Hid (Go.Wq.shape s.data.toList = none) := Lib.hid (by unfold Go.Wq.shape; rw [if_neg (by omega), ← hpr, hx])
      have HR : Hid (∀ w, Calls Tryz.prog 69 #[.string s, .int .i64 0, .int .i64 0] w fun e w' => e = .returned (.tuple #[.slice none 0 0, .int .i64 0, .bool false]) ∧ Below w.heap.size w w') := Lib.hid (fun w => (HI w).mono (fun e w' h => by rw [hx] at h; exact h))
      clear HI hx hpr hsl
      go_enter Tryz.func41, Tryz.ntmps41
      go_wp2_with (go_at_call 69; refine (HR.out _).mono ?_; rintro e w3 ⟨rfl, hb3⟩)
      refine bodyPost_ret (v := .tuple #[.slice none 0 0, .bool false]) (by simp [results, Tryz.results41, go_sem]) rfl ?_
      unfold ShapedEnds; rw [HN.out]; first | exact ⟨_, rfl, hb3⟩ | exact ⟨_, rfl, hb3.drew⟩
    | some y =>
      obtain ⟨l, q⟩ := y
      obtain ⟨pre, hpre, hq⟩ := prs_left hx
      have hql := congrArg List.length hpre
      rw [drop_len, List.length_append] at hql
      cases q with
      | nil =>
        have HN : Hid (Go.Wq.shape s.data.toList = some l) := Lib.hid (by unfold Go.Wq.shape; rw [if_neg (by omega), ← hpr, hx])
        have HR : Hid (∀ w, Calls Tryz.prog 69 #[.string s, .int .i64 0, .int .i64 0] w fun e w' => ∃ (a : Option Addr) (c : Nat), e = .returned (.tuple #[.slice a l.length c, .int .i64 (s.size : Int), .bool true]) ∧ ItsZ w' (fun k => w.heap.size ≤ k ∧ k < w'.heap.size) l a l.length ∧ Below w.heap.size w w') := Lib.hid (fun w => (HI w).mono (fun e w' h => by rw [hx] at h; obtain ⟨a, c, h1, h2, h3⟩ := h; exact ⟨a, c, by simpa using h1, h2, h3⟩))
        clear HI hx hpr hsl hpre hq hql
        go_enter Tryz.func41, Tryz.ntmps41
        go_wp2_with (go_at_call 69; refine (HR.out _).mono ?_; rintro e w3 ⟨xa, xc, rfl, hi3, hb3⟩)
        refine bodyPost_ret (v := .tuple #[.slice xa l.length xc, .bool true]) (by simp [results, Tryz.results41, go_sem]) rfl ?_
        unfold ShapedEnds; rw [HN.out]; exact ⟨xa, xc, rfl, hi3, hb3⟩
      | cons c' r' =>
        have HN : Hid (Go.Wq.shape s.data.toList = none) := Lib.hid (by unfold Go.Wq.shape; rw [if_neg (by omega), ← hpr, hx])
        have HR : Hid (∀ w, Calls Tryz.prog 69 #[.string s, .int .i64 0, .int .i64 0] w fun e w' => ∃ (a : Option Addr) (c : Nat), e = .returned (.tuple #[.slice a l.length c, .int .i64 ((s.size - r'.length - 1 : Nat) : Int), .bool true]) ∧ Below w.heap.size w w') := Lib.hid (fun w => (HI w).mono (fun e w' h => by rw [hx] at h; obtain ⟨a, c, h1, h2, h3⟩ := h; simp only [List.length_cons] at hql; have hE : (s.size : Int) - ((c' :: r').length : Int) = ((s.size - r'.length - 1 : Nat) : Int) := (by simp only [List.length_cons]; omega); rw [hE] at h1; exact ⟨a, c, h1, h3⟩))
        have hne : (((s.size - r'.length - 1 : Nat) : Int) == (s.size : Int)) = false := by simp only [List.length_cons] at hql; simp; omega
        generalize s.size - r'.length - 1 = en at *
        clear HI hx hpr hsl hpre hq hql
        go_enter Tryz.func41, Tryz.ntmps41
        go_wp2_with (go_at_call 69; refine (HR.out _).mono ?_; rintro e w3 ⟨xa, xc, rfl, hb3⟩)
        refine bodyPost_ret (v := .tuple #[.slice xa l.length xc, .bool false]) (by simp [results, Tryz.results41, go_sem]) rfl ?_
        unfold ShapedEnds; rw [HN.out]; first | exact ⟨_, rfl, hb3⟩ | exact ⟨_, rfl, hb3.drew⟩

end Go.Proofs.YtidfgjgbigedeaaGreatDoor
