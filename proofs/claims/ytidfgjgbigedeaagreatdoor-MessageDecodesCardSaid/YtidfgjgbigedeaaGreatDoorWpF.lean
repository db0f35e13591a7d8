/- The program's writer: a field of each letter. The program's writer: lists; fields. -/
import Derived.Test.YtidfgjgbigedeaaGreatDoorWpE
import Derived.Test.YtidfgjgbigedeaaGreatDoorWqAll
import Derived.StillTailTactics
section
namespace Go.Proofs.YtidfgjgbigedeaaGreatDoor
open Go.RowKit Go.Lib Go.Wq
set_option linter.unusedVariables false
set_option linter.unusedSimpArgs false
set_option maxRecDepth 100000

/-- How writing ends: all is written, or it was too much. -/
def FEnd (wb base : Nat) (x : List UInt8) (v : Value) (w : World) (e : Ending) (w' : World) : Prop :=
  Wrote wb base x v w e w' ∨ (65536 < x.length ∧ Dies 3 0 w e w' ∧ Kept (Ours wb base) w w')
theorem FEnd.from {wb base : Nat} {x : List UInt8} {v : Value} {w0 w : World} {e : Ending} {w' : World} (h : FEnd wb base x v w e w') (hb : Below w0.heap.size w0 w) : FEnd wb base x v w0 e w' := by
  rcases h with ⟨rfl, v', h1, h2⟩ | ⟨h1, h2, h3⟩
  · exact Or.inl ⟨rfl, v', h1, (Moved.of_below v hb).trans h2⟩
  · exact Or.inr ⟨h1, h2.from hb.size, (Kept.of_below hb).trans h3⟩
def FieldSays (it : It) : Prop := ∀ (wb base : Nat) (v : Value) (b : List UInt8) (S : Nat → Prop) (xa : Option Addr) (xc : Nat) (u : Nat) (i : Int) (f : Nat) (bb : Bool) (s : ByteArray) (l : List (List Fld)) (ra : Option Addr) (rc : Nat) (w : World) (a : List UInt8),
  Wr w wb base v b → ItsZ w S it.inner xa it.inner.length → (∀ k, S k → k < base ∧ k ≠ wb) → Go.Wq.RowsIn w wb l ra l.length → it.inner.length ≤ 256 → SizeOf.sizeOf it ≤ 2000 → b.length + 16 * SizeOf.sizeOf it ≤ 131072 → Fine (.mk u i f bb s.data.toList l) → encOne it (.mk u i f bb s.data.toList l) = some a →
  Calls Tryz.prog 67 #[.pointer (some ⟨wb, 0, none⟩), .agg #[.int .u8 it.code, .slice xa it.inner.length xc], .agg #[.int .u64 (u : Int), .int .i64 i, .float .f64 f, .bool bb, .string s, .slice ra l.length rc]] w fun e w' => FEnd wb base (b ++ a) v w e w'

theorem boxes (w : World) (c1 c2 : Array Value) (t1 t2 : TypeId) : Below w.heap.size w ((w.alloc (.cells c1 t1)).alloc (.cells c2 t2)) := ((Below.refl _ w).alloc (Nat.le_refl _) _).alloc (by simp) _

set_option maxHeartbeats 2000000 in
theorem field_u : FieldSays .u := by
  intro wb base v b S xa xc u i f bb s l ra rc w a H hits hS hrows h256 hsz hbl hfine henc
  have ha : a = vint u := by
    simp only [encOne] at henc
    split at henc
    · exact (Option.some.inj henc).symm
    · cases henc
  subst ha
  have hu : u < 18446744073709551616 := hfine.1.hu
  have hb := boxes w #[.int .u8 It.u.code, .slice xa It.u.inner.length xc] #[.int .u64 (u : Int), .int .i64 i, .float .f64 f, .bool bb, .string s, .slice ra l.length rc] 95 57
  have HN := Lib.hid (number_any wb base b u hu v _ (H.kept hb) (by omega))
  have HB := Lib.hid hb
  simp only [It.code, It.inner] at HN HB ⊢
  clear hits hrows hfine henc hb H
  go_enter Tryz.func67, Tryz.ntmps67
  go_wp2_with fail
  refine HN.out.mono ?_
  rintro e w3 h3
  obtain ⟨rfl, h4⟩ := h3
  have H4 := Lib.hid h4
  clear h4
  go_wp2_with fail
  first | go_end0 | refine bodyPost_ret (results_none rfl _ _ _) rfl ?_
  exact FEnd.from (Or.inl ⟨rfl, H4.out⟩) HB.out

set_option maxHeartbeats 2000000 in
theorem field_i : FieldSays .i := by
  intro wb base v b S xa xc u i f bb s l ra rc w a H hits hS hrows h256 hsz hbl hfine henc
  have ha : a = vint (zig i) := by
    simp only [encOne] at henc
    split at henc
    · exact (Option.some.inj henc).symm
    · cases henc
  subst ha
  have h0 : -9223372036854775808 ≤ i := hfine.1.h0
  have h1 : i ≤ 9223372036854775807 := hfine.1.h1
  have hb := boxes w #[.int .u8 It.i.code, .slice xa It.i.inner.length xc] #[.int .u64 (u : Int), .int .i64 i, .float .f64 f, .bool bb, .string s, .slice ra l.length rc] 95 57
  have HN := Lib.hid (number_any wb base b (zig i) (zig_lt h0 h1) v _ (H.kept hb) (by omega))
  have HB := Lib.hid hb
  have HF := Lib.hid (fold_any i h0 h1)
  simp only [It.code, It.inner] at HN HB ⊢
  clear hits hrows hfine henc hb H
  go_enter Tryz.func67, Tryz.ntmps67
  go_wp2_with fail
  refine (HF.out _).mono ?_
  rintro e w2 ⟨rfl, rfl⟩
  go_wp2_with fail
  refine HN.out.mono ?_
  rintro e w3 h3
  obtain ⟨rfl, h4⟩ := h3
  have H4 := Lib.hid h4
  clear h4
  go_wp2_with fail
  first | go_end0 | refine bodyPost_ret (results_none rfl _ _ _) rfl ?_
  exact FEnd.from (Or.inl ⟨rfl, H4.out⟩) HB.out

set_option maxHeartbeats 2000000 in
theorem field_f : FieldSays .f := by
  intro wb base v b S xa xc u i f bb s l ra rc w a H hits hS hrows h256 hsz hbl hfine henc
  have ha : a = bytesOf 8 f := by
    simp only [encOne] at henc
    split at henc
    · exact (Option.some.inj henc).symm
    · cases henc
  subst ha
  have hb := boxes w #[.int .u8 It.f.code, .slice xa It.f.inner.length xc] #[.int .u64 (u : Int), .int .i64 i, .float .f64 f, .bool bb, .string s, .slice ra l.length rc] 95 57
  have HN := Lib.hid (wfloat_any wb base b f v _ (H.kept hb) (by omega))
  have HB := Lib.hid hb
  simp only [It.code, It.inner] at HN HB ⊢
  clear hits hrows hfine henc hb H
  go_enter Tryz.func67, Tryz.ntmps67
  go_wp2_with fail
  refine HN.out.mono ?_
  rintro e w3 h3
  obtain ⟨rfl, h4⟩ := h3
  have H4 := Lib.hid h4
  clear h4
  go_wp2_with fail
  first | go_end0 | refine bodyPost_ret (results_none rfl _ _ _) rfl ?_
  exact FEnd.from (Or.inl ⟨rfl, H4.out⟩) HB.out

set_option maxHeartbeats 2000000 in
theorem field_b : FieldSays .b := by
  intro wb base v b S xa xc u i f bb s l ra rc w a H hits hS hrows h256 hsz hbl hfine henc
  have ha : a = [if bb then 1 else 0] := by
    simp only [encOne] at henc
    split at henc
    · exact (Option.some.inj henc).symm
    · cases henc
  subst ha
  have hb := boxes w #[.int .u8 It.b.code, .slice xa It.b.inner.length xc] #[.int .u64 (u : Int), .int .i64 i, .float .f64 f, .bool bb, .string s, .slice ra l.length rc] 95 57
  have HN := Lib.hid (truth_any wb base b bb v _ (H.kept hb) (by omega))
  have HB := Lib.hid hb
  simp only [It.code, It.inner] at HN HB ⊢
  clear hits hrows hfine henc hb H
  cases bb <;> (
    go_enter Tryz.func67, Tryz.ntmps67
    go_wp2_with fail
    refine HN.out.mono ?_
    rintro e w3 h3
    obtain ⟨rfl, h4⟩ := h3
    have H4 := Lib.hid h4
    clear h4
    go_wp2_with fail
    first | go_end0 | refine bodyPost_ret (results_none rfl _ _ _) rfl ?_
    exact FEnd.from (Or.inl ⟨rfl, H4.out⟩) HB.out)

set_option maxHeartbeats 2000000 in
theorem field_t : FieldSays .t := by
  intro wb base v b S xa xc u i f bb s l ra rc w a H hits hS hrows h256 hsz hbl hfine henc
  have hsd : s.data.toList.length = s.size := by rw [Array.length_toList]; rfl
  have ha : a = vint s.size ++ s.data.toList := by
    simp only [encOne] at henc
    split at henc
    · have := (Option.some.inj henc).symm; simp only [Fld.T, hsd] at this; exact this
    · cases henc
  subst ha
  have hss : s.size ≤ 140737488351232 := by have := hfine.2.1.t; simp only [Fld.T, hsd] at this; exact this
  have hb := boxes w #[.int .u8 It.t.code, .slice xa It.t.inner.length xc] #[.int .u64 (u : Int), .int .i64 i, .float .f64 f, .bool bb, .string s, .slice ra l.length rc] 95 57
  have HN := Lib.hid (text_any wb base b s v _ (H.kept hb) (by omega) hss)
  have HB := Lib.hid hb
  simp only [It.code, It.inner] at HN HB ⊢
  clear hits hrows hfine henc hb H hsd
  go_enter Tryz.func67, Tryz.ntmps67
  go_wp2_with fail
  refine HN.out.mono ?_
  rintro e w3 h3
  rcases h3 with ⟨rfl, h4⟩ | ⟨h5, ⟨pb, rfl, h6⟩, h7⟩
  · have H4 := Lib.hid h4
    clear h4
    go_wp2_with fail
    first | go_end0 | refine bodyPost_ret (results_none rfl _ _ _) rfl ?_
    exact FEnd.from (Or.inl ⟨rfl, H4.out⟩) HB.out
  · have H5 := Lib.hid h5
    have H6 := Lib.hid h6
    have H7 := Lib.hid h7
    clear h5 h6 h7
    go_wp2_with fail
    exact ⟨rfl, FEnd.from (Or.inr ⟨H5.out, ⟨pb, rfl, H6.out⟩, H7.out⟩) HB.out⟩
end Go.Proofs.YtidfgjgbigedeaaGreatDoor
end

section
namespace Go.Proofs.YtidfgjgbigedeaaGreatDoor
open Go.RowKit Go.Lib Go.Wq
set_option linter.unusedVariables false
set_option linter.unusedSimpArgs false
set_option maxRecDepth 100000

def FieldsSays (its : List It) : Prop := ∀ (wb base : Nat) (v : Value) (b : List UInt8) (S : Nat → Prop) (ia : Option Addr) (ic : Nat) (fs : List Fld) (fa : Option Addr) (fc : Nat) (w : World) (a : List UInt8),
  Wr w wb base v b → ItsZ w S its ia its.length → (∀ k, S k → k < base ∧ k ≠ wb) → FldsIn w wb fs fa fs.length → its.length ≤ 256 → (∀ y ∈ its, y.Sm) → SizeOf.sizeOf its ≤ 2000 → b.length + 16 * SizeOf.sizeOf its ≤ 131072 → (∀ y ∈ fs, Fine y) → encAll its fs = some a →
  Calls Tryz.prog 37 #[.pointer (some ⟨wb, 0, none⟩), .slice ia its.length ic, .slice fa fs.length fc] w fun e w' => FEnd wb base (b ++ a) v w e w' ∧ (e = .returned (.tuple #[]) → its = [] ∨ (b ++ a).length ≤ 65536)

theorem rows_moved {wb base : Nat} {w w' : World} {v v' : Value} {b : List UInt8} {l : List (List Fld)} {ra : Option Addr} (H : Wr w wb base v b) (h : Moved wb w w' v v') (hr : Go.Wq.RowsIn w wb l ra l.length) : Go.Wq.RowsIn w' wb l ra l.length :=
  RowsIn.kept (B := wb) (fun k hk => h.block k (by have h1 := H.lt; have h2 := H.le; omega) (by omega) (fun e => by have h1 := (H.own.lt k e).1; have h2 := H.lt; omega)) _ _ _ hr
theorem its_moved {wb base : Nat} {w w' : World} {v v' : Value} {b : List UInt8} {S : Nat → Prop} {l : List It} {a : Option Addr} {n : Nat} (H : Wr w wb base v b) (hS : ∀ k, S k → k < base ∧ k ≠ wb) (h : Moved wb w w' v v') (hi : ItsZ w S l a n) : ItsZ w' S l a n :=
  ItsZ.kept (fun k hk => h.block k (by have h1 := (hS k hk).1; have h2 := H.le; omega) (hS k hk).2 (fun e => by have h1 := (H.own.lt k e).1; have h2 := (hS k hk).1; omega)) (fun _ h => h) _ _ _ hi
theorem flds_moved {wb base : Nat} {w w' : World} {v v' : Value} {b : List UInt8} {fs : List Fld} {fa : Option Addr} {n : Nat} (H : Wr w wb base v b) (h : Moved wb w w' v v') (hf : FldsIn w wb fs fa n) : FldsIn w' wb fs fa n :=
  FldsIn.kept (B := wb) (fun k hk => h.block k (by have h1 := H.lt; have h2 := H.le; omega) (by omega) (fun e => by have h1 := (H.own.lt k e).1; have h2 := H.lt; omega)) _ _ _ hf
set_option maxHeartbeats 4000000 in
theorem field_l (inner : List It) (IH : FieldsSays inner) (hsm : ∀ y ∈ inner, y.Sm) : FieldSays (.l inner) := by
  intro wb base v b S xa xc u i f bb s l ra rc w a H hits hS hrows h256 hsz hbl hfine henc
  simp only [It.inner, It.code] at hits h256 ⊢
  have hszl := size_l inner
  obtain ⟨rsA, hrsA, ha⟩ : ∃ rs, rows (fun r => encAll inner r) l = some rs ∧ a = vint l.length ++ rs := by
    simp only [encOne] at henc
    split at henc
    · simp only [Fld.L] at henc
      cases hr : rows (fun r => encAll inner r) l with
      | none => rw [hr] at henc; cases henc
      | some rs => rw [hr] at henc; exact ⟨rs, rfl, (Option.some.inj henc).symm⟩
    · cases henc
  subst ha
  have hll : l.length < 4611686018427387904 := hfine.2.2.n
  have hfl : ∀ r ∈ l, ∀ y ∈ r, Fine y := fun r hr y hy => ⟨hfine.1.hl r hr y hy, hfine.2.1.l r hr y hy, hfine.2.2.l r hr y hy⟩
  have hten := vint_ten' (n := l.length) (by omega)
  obtain ⟨w0, hw0⟩ : ∃ w0, w0 = (w.alloc (.cells #[.int .u8 40, .slice xa inner.length xc] 95)).alloc (.cells #[.int .u64 (u : Int), .int .i64 i, .float .f64 f, .bool bb, .string s, .slice ra l.length rc] 57) := ⟨_, rfl⟩
  have hb : Below w.heap.size w w0 := by rw [hw0]; exact boxes _ _ _ _ _
  have hs0 : w0.heap.size = w.heap.size + 2 := by rw [hw0]; simp
  have H0 := H.kept hb
  have hO := H.own.lt
  have hle := H.le
  have hlt := H.lt
  have z1 : w0.cell? ⟨w.heap.size, 1, none⟩ = some (.slice xa inner.length xc) := by rw [hw0]; simp [go_sem]
  have z5 : w0.cell? ⟨w.heap.size + 1, 5, none⟩ = some (.slice ra l.length rc) := by rw [hw0]; simp [go_sem]
  have hv1 : v.ownBlock ≠ some w.heap.size := fun e => by have := (hO _ e).2; omega
  have hv2 : v.ownBlock ≠ some (w.heap.size + 1) := fun e => by have := (hO _ e).2; omega
  have HN := Lib.hid (number_any wb base b l.length (by omega) v w0 H0 (by omega))
  have hws : IntKind.u64.wrap (l.length : Int) = (l.length : Int) := by rw [Go.IntKind.wrap_u64]; omega
  have HB := Lib.hid hb
  have HH := Lib.hid H
  have HH0 := Lib.hid H0
  have HI0 : Hid (ItsZ w0 S inner xa inner.length) := Lib.hid (ItsZ.kept (fun k hk => hb.block k (by have h1 := (hS k hk).1; omega)) (fun _ h => h) _ _ _ hits)
  have HR0 : Hid (Go.Wq.RowsIn w0 wb l ra l.length) := Lib.hid (RowsIn.kept (B := wb) (fun k hk => hb.block k (by omega)) _ _ _ hrows)
  have HS := Lib.hid hS
  have HFL := Lib.hid hfl
  have HRA := Lib.hid hrsA
  have HSM := Lib.hid hsm
  have IHH := Lib.hid IH
  have HMC : Hid (∀ (wq : World) (vq : Value), Moved wb w0 wq v vq → wq.cell? ⟨w.heap.size, 1, none⟩ = some (.slice xa inner.length xc) ∧ wq.cell? ⟨w.heap.size + 1, 5, none⟩ = some (.slice ra l.length rc) ∧ w.heap.size + 2 ≤ wq.heap.size) := Lib.hid (fun wq vq h =>
    ⟨(World.cell?_of_block (h.block w.heap.size (by omega) (by omega) hv1)).trans z1, (World.cell?_of_block (h.block (w.heap.size + 1) (by omega) (by omega) hv2)).trans z5, by have := h.size; omega⟩)
  clear hits hrows hfine henc hb H H0 hS hfl hrsA hsm IH hO z1 z5 hv1 hv2
  go_enter Tryz.func67, Tryz.ntmps67
  go_wp2_with fail
  rw [← hw0]
  refine HN.out.mono ?_
  rintro e w3 ⟨rfl, v3, hw3, hm3⟩
  have HW3 := Lib.hid hw3
  have HM3 := Lib.hid hm3
  obtain ⟨c1, c5, hs3⟩ := HMC.out w3 v3 hm3
  clear hw3 hm3
  go_wp2_with fail
  go_loopw [52] (fun i wq => ∃ (q : Nat) (rs : List UInt8) (vq : Value), q ≤ l.length ∧ i = .int .i64 (q : Int) ∧ rows (fun r => encAll inner r) (l.take q) = some rs ∧ Wr wq wb base vq (b ++ (vint l.length ++ rs)) ∧ Moved wb w0 wq v vq ∧ ((b ++ (vint l.length ++ rs)).length ≤ 65536 ∨ (b ++ (vint l.length ++ rs)).length ≤ b.length + 10)) (fun i _ => l.length - (intOf i).toNat)
  case atStart => exact ⟨0, [], v3, Nat.zero_le _, rfl, by simp [rows], by simpa using HW3.out, HM3.out, Or.inr (by simp; omega)⟩
  case round =>
    obtain ⟨q, rs, vq, hq, rfl, hrs, hwq, hmq, hbd⟩ := hrel
    obtain ⟨c1, c5, hs3⟩ := HMC.out wr vq hmq
    have HRS := Lib.hid hrs
    have HWQ := Lib.hid hwq
    have HMQ := Lib.hid hmq
    have HBD := Lib.hid hbd
    have HRQ := rows_moved HH0.out hmq HR0.out
    have HIQ := its_moved HH0.out HS.out hmq HI0.out
    clear hrs hwq hmq hbd
    by_cases hql : q < l.length
    · have hqi : 0 ≤ (q : Int) ∧ (q : Int) < (l.length : Int) := by omega
      have hqj := hqi.2
      have hqb : (q : Int) < 4611686018427387904 := by omega
      obtain ⟨rb, ro, rfl, hrb, sa, sn, sc, hrc, hfl6⟩ := HRQ.at q hql
      obtain rfl := hfl6.len
      have hrb2 : rb < wr.heap.size := by omega
      obtain ⟨a2, ha2⟩ := rows_one HRA.out q hql
      have hcur : (b ++ (vint l.length ++ rs)).length + 16 * SizeOf.sizeOf inner ≤ 131072 := by
        rcases HBD.out with h | h <;> omega
      have HC := Lib.hid (IHH.out wb base vq _ S xa xc l[q] sa sc wr a2 HWQ.out HIQ HS.out hfl6 h256 HSM.out (by omega) hcur (HFL.out _ (List.getElem_mem hql)) ha2)
      have hrs2 : rows (fun r => encAll inner r) (l.take (q + 1)) = some (rs ++ a2) := by rw [rows_snoc hql, HRS.out, ha2]
      have HRS2 := Lib.hid hrs2
      obtain ⟨p, t, hp, ht⟩ := rows_pre HRA.out (q + 1)
      have hpe : p = rs ++ a2 := by rw [hrs2] at hp; exact (Option.some.inj hp).symm
      have HTOT : Hid (65536 < (b ++ (vint l.length ++ rs) ++ a2).length → 65536 < (b ++ (vint l.length ++ rsA)).length) := Lib.hid (fun h => by rw [ht, hpe]; simp only [List.length_append] at h ⊢; omega)
      have HNI : Hid (inner = [] → a2 = []) := Lib.hid (fun h => by subst h; exact encAll_nil ha2)
      have HAS : Hid (b ++ (vint l.length ++ rs) ++ a2 = b ++ (vint l.length ++ (rs ++ a2))) := Lib.hid (by simp)
      clear hrs2 hp ht hpe ha2
      generalize l[q] = row at *
      clear hfl6 HRQ HIQ
      go_wp2_with fail
      refine HC.out.mono ?_
      rintro e w5 ⟨h5, h5b⟩
      rcases h5 with ⟨rfl, v5, hw5, hm5⟩ | ⟨h6, ⟨pb, rfl, h7⟩, h8⟩
      · have HB5 := Lib.hid (h5b rfl)
        have HW5 := Lib.hid hw5
        have HM5 := Lib.hid hm5
        clear hw5 hm5 h5b
        go_wp2_with fail
        refine ⟨⟨q + 1, rs ++ a2, v5, by omega, by simp, HRS2.out, by rw [← HAS.out]; exact HW5.out, HMQ.out.trans HM5.out, ?_⟩, ?_⟩
        · rw [← HAS.out]
          rcases HB5.out with h | h
          · rw [HNI.out h, List.append_nil]; exact HBD.out
          · exact Or.inl h
        · simp [intOf]; omega
      · have H6 := Lib.hid h6
        have H7 := Lib.hid h7
        have H8 := Lib.hid h8
        have hsq := HMQ.out.size
        clear h6 h7 h8 h5b
        go_wp2_with fail
        refine ⟨rfl, FEnd.from (Or.inr ⟨HTOT.out H6.out, ⟨pb, rfl, by have h1 := H7.out.1; omega, H7.out.2⟩, (HMQ.out.kept HH0.out.own).trans H8.out⟩) HB.out⟩
    · obtain rfl : q = l.length := by omega
      have hqn : ¬ ((l.length : Int) < (l.length : Int)) := by omega
      have HALL : Hid (rs = rsA) := Lib.hid (by have h := HRS.out; rw [List.take_length, HRA.out] at h; exact (Option.some.inj h).symm)
      clear HRQ HIQ
      go_wp2_with fail
      first | go_end0 | refine bodyPost_ret (results_none rfl _ _ _) rfl ?_
      have hall := HALL.out
      subst hall
      exact FEnd.from (Or.inl ⟨rfl, vq, HWQ.out, HMQ.out⟩) HB.out

theorem field_it (it : It) (IH : ∀ inner, it = .l inner → FieldsSays inner) (hsm : it.Sm) : FieldSays it := by
  cases it with
  | u => exact field_u
  | i => exact field_i
  | f => exact field_f
  | b => exact field_b
  | t => exact field_t
  | l inner => exact field_l inner (IH inner rfl) (by cases hsm with | l h g => exact g)

set_option maxHeartbeats 4000000 in
theorem fields_any (its : List It) (IH : ∀ its', It.l its' ∈ its → FieldsSays its') : FieldsSays its := by
  intro wb base v b S ia ic fs fa fc w a H hits hS hfs h256 hsm hsz hbl hfine henc
  have HLN := Lib.hid (encAll_len henc)
  have HH := Lib.hid H
  have HI0 := Lib.hid hits
  have HF0 := Lib.hid hfs
  have HS := Lib.hid hS
  have HSM := Lib.hid hsm
  have HFN := Lib.hid hfine
  have HEA := Lib.hid henc
  have IH := Lib.hid IH
  have hlt := H.lt
  have hle := H.le
  have hO := Lib.hid H.own.lt
  clear H hits hfs hS hsm hfine henc
  go_enter Tryz.func37, Tryz.ntmps37
  go_wp2_with fail
  go_loopw [10] (fun i wq => ∃ (k : Nat) (ak : List UInt8) (vq : Value), k ≤ its.length ∧ i = .int .i64 (k : Int) ∧ encAll (its.take k) (fs.take k) = some ak ∧ Wr wq wb base vq (b ++ ak) ∧ Moved wb w wq v vq ∧ (k = 0 ∨ (b ++ ak).length ≤ 65536)) (fun i _ => its.length - (intOf i).toNat)
  case atStart => exact ⟨0, [], v, Nat.zero_le _, rfl, by simp [encAll], by simpa using HH.out, Moved.refl _ _ _, Or.inl rfl⟩
  case round =>
    obtain ⟨k, ak, vq, hk, rfl, henc, hwq, hmq, hbd⟩ := hrel
    have HE := Lib.hid henc
    have HWQ := Lib.hid hwq
    have HMQ := Lib.hid hmq
    have HBD := Lib.hid hbd
    have hsz2 := hmq.size
    by_cases hltk : k < its.length
    · have hlf : k < fs.length := by have := HLN.out; omega
      obtain ⟨ib, io, rfl, hit⟩ := (its_moved HH.out HS.out hmq HI0.out).at k hltk
      obtain ⟨fb, fo, rfl, hfl⟩ := (flds_moved HH.out hmq HF0.out).at k hlf
      obtain ⟨hSb, hcc, xa, xn, xc, hcx, hin⟩ := hit.all
      obtain ⟨ck, hck⟩ := encAll_one HEA.out k hltk hlf
      have henc2 : encAll (its.take (k + 1)) (fs.take (k + 1)) = some (ak ++ ck) := by rw [encAll_snoc hltk hlf, HE.out, hck]
      obtain ⟨p, t, hp, ht⟩ := encAll_pre HEA.out (k + 1) (by omega)
      have hpe : p = ak ++ ck := by rw [henc2] at hp; exact (Option.some.inj hp).symm
      have HTOT : Hid (65536 < (b ++ ak ++ ck).length → 65536 < (b ++ a).length) := Lib.hid (fun h => by rw [ht, hpe]; simp only [List.length_append] at h ⊢; omega)
      have HE2 := Lib.hid henc2
      have hszk : SizeOf.sizeOf its[k] < SizeOf.sizeOf its := List.sizeOf_lt_of_mem (List.getElem_mem hltk)
      have HSK := Lib.hid (HSM.out _ (List.getElem_mem hltk))
      have HFK := Lib.hid (HFN.out _ (List.getElem_mem hlf))
      have HSAY := Lib.hid (field_it its[k] (fun inner e => IH.out inner (by rw [← e]; exact List.getElem_mem hltk)) HSK.out)
      have HAS : Hid (b ++ ak ++ ck = b ++ (ak ++ ck)) := Lib.hid (by simp)
      have hcur : (b ++ ak).length + 16 * SizeOf.sizeOf its[k] ≤ 131072 := by
        rcases HBD.out with h | h
        · have : ak = [] := by have h1 := HE.out; subst h; simp [encAll] at h1; first | exact h1 | exact h1.symm
          subst this; simp only [List.append_nil]; omega
        · omega
      clear hp ht hpe henc2 henc hbd
      generalize its[k] = it at *
      generalize fs[k] = y at *
      obtain ⟨u, i, f, bb, t', l⟩ := y
      simp only [FldIn] at hfl
      obtain ⟨hfb, c0, c1, c2, c3, ⟨s, rfl, c4⟩, ra, rn, rc, c5, hrows⟩ := hfl
      obtain rfl := hrows.len
      obtain rfl := hin.len
      have h256k : it.inner.length ≤ 256 := by
        have h := HSK.out
        cases h with
        | l h1 h2 => exact h1
        | _ => simp [It.inner]
      have hib : ib < base := (HS.out ib hSb).1
      have hibw : ib ≠ wb := (HS.out ib hSb).2
      have hib2 : ib < wr.heap.size := by omega
      have hfb2 : fb < wr.heap.size := by omega
      have hix : 0 ≤ (k : Int) ∧ (k : Int) < (its.length : Int) := by omega
      have hixf : 0 ≤ (k : Int) ∧ (k : Int) < (fs.length : Int) := by omega
      have hixk := hix.2
      have hixm := hixf.2
      obtain ⟨w2, hw2⟩ : ∃ w2, w2 = wr.alloc (.cells #[.int .u8 it.code, .slice xa it.inner.length xc] 95) := ⟨_, rfl⟩
      have q0 : w2.cell? ⟨wr.heap.size, 0, none⟩ = some (.int .u8 it.code) := by rw [hw2]; simp [go_sem]
      have q1 : w2.cell? ⟨wr.heap.size, 1, none⟩ = some (.slice xa it.inner.length xc) := by rw [hw2]; simp [go_sem]
      have C : ∀ o, w2.cell? ⟨fb, o, none⟩ = wr.cell? ⟨fb, o, none⟩ := fun o => by rw [hw2]; exact World.cell?_alloc_past _ _ _ hfb2
      have hbel2 : Below wr.heap.size wr w2 := by rw [hw2]; exact (Below.refl _ wr).alloc (Nat.le_refl _) _
      have g0 : w2.cell? ⟨fb, fo + k * 6, none⟩ = some (.int .u64 (u : Int)) := (C _).trans c0
      have g1 : w2.cell? ⟨fb, fo + k * 6 + 1, none⟩ = some (.int .i64 i) := (C _).trans c1
      have g2 : w2.cell? ⟨fb, fo + k * 6 + 2, none⟩ = some (.float .f64 f) := (C _).trans c2
      have g3 : w2.cell? ⟨fb, fo + k * 6 + 3, none⟩ = some (.bool bb) := (C _).trans c3
      have g4 : w2.cell? ⟨fb, fo + k * 6 + 4, none⟩ = some (.string s) := (C _).trans c4
      have g5 : w2.cell? ⟨fb, fo + k * 6 + 5, none⟩ = some (.slice ra l.length rc) := (C _).trans c5
      have HCALL : Hid (∀ W, Like w2 W → Calls Tryz.prog 67 #[.pointer (some ⟨wb, 0, none⟩), .agg #[.int .u8 it.code, .slice xa it.inner.length xc], .agg #[.int .u64 (u : Int), .int .i64 i, .float .f64 f, .bool bb, .string s, .slice ra l.length rc]] W fun e w' => FEnd wb base (b ++ ak ++ ck) vq wr e w') := Lib.hid (fun W hW => by
        have h1 : Below wr.heap.size wr W := ⟨hW.os.trans hbel2.os, hW.tape.trans hbel2.tape, hW.output.trans hbel2.output, by rw [hW.heap]; exact hbel2.size, fun k hk => by rw [hW.heap]; exact hbel2.block k hk⟩
        exact (HSAY.out wb base vq (b ++ ak) S xa xc u i f bb s l ra rc W ck (HWQ.out.kept h1) (ItsZ.kept (fun j hj => h1.block j (by have := (HS.out j hj).1; omega)) (fun _ h => h) _ _ _ hin) HS.out (RowsIn.kept (B := wb) (fun j hj => h1.block j (by omega)) _ _ _ hrows) h256k (by omega) hcur HFK.out hck).mono (fun e w' h => h.from h1))
      generalize hcd : it.code = cd at *
      clear hwq hmq hit hrows hin hbel2 hSb hck hcur hcd
      go_wp2_with fail
      rw [← hw2]
      clear hw2 C
      go_still_tail 6, (by kernel_rfl)
      change wpList _ _ _ _ _ w2.drew
      generalize hwd : w2.drew = wd
      have hlk : Like w2 wd := by rw [← hwd]; exact ⟨rfl, rfl, rfl, rfl⟩
      clear hwd
      go_wp2_with fail
      refine (HCALL.out _ hlk).mono ?_
      rintro e w3 h3
      clear g0 g1 g2 g3 g4 g5 q0 q1 hlk c0 c1 c2 c3 c4 c5 hcc hcx
      rcases h3 with ⟨rfl, v3, hw3, hm3⟩ | ⟨h6, ⟨pb, rfl, h7⟩, h8⟩
      · have HM3 := Lib.hid hm3
        by_cases h65 : (b ++ ak ++ ck).length ≤ 65536
        · have HKO := Lib.hid (keep_ok wb base _ 0 v3 w3 hw3 (by omega))
          have HW3 := Lib.hid hw3
          clear hw3 hm3
          go_wp2_with fail
          refine HKO.out.mono ?_
          rintro e w4 ⟨rfl, rfl⟩
          go_wp2_with fail
          refine ⟨⟨k + 1, ak ++ ck, v3, by omega, by simp, HE2.out, by rw [← HAS.out]; exact HW3.out, HMQ.out.trans HM3.out, Or.inr (by rw [← HAS.out]; exact h65)⟩, ?_⟩
          simp [intOf]; omega
        · have HKO := Lib.hid (keep_bad wb base _ 0 v3 w3 hw3 (by omega) (by omega))
          have hs3 := hm3.size
          clear hw3 hm3
          go_wp2_with fail
          refine HKO.out.mono ?_
          rintro e w4 ⟨⟨pb, rfl, hd1⟩, hb4⟩
          go_wp2_with fail
          refine ⟨rfl, Or.inr ⟨HTOT.out (by omega), ⟨pb, rfl, by have h1 := hd1.1; omega, hd1.2⟩, ((HMQ.out.trans HM3.out).kept HH.out.own).trans (Kept.of_below hb4)⟩, fun h => by cases h⟩
      · have H6 := Lib.hid h6
        have H7 := Lib.hid h7
        have H8 := Lib.hid h8
        clear h6 h7 h8
        go_wp2_with fail
        refine ⟨rfl, Or.inr ⟨HTOT.out H6.out, ⟨pb, rfl, by have h1 := H7.out.1; omega, H7.out.2⟩, (HMQ.out.kept HH.out.own).trans H8.out⟩, fun h => by cases h⟩
    · obtain rfl : k = its.length := by omega
      have HALL : Hid (ak = a) := Lib.hid (by have h1 := HE.out; rw [List.take_length, List.take_of_length_le (by have := HLN.out; omega), HEA.out] at h1; exact (Option.some.inj h1).symm)
      have hlt' : ¬ ((its.length : Int) < (its.length : Int)) := by omega
      clear henc hwq hmq hbd
      go_wp2_with fail
      first | go_end0 | refine bodyPost_ret (results_none rfl _ _ _) rfl ?_
      have hall := HALL.out
      subst hall
      refine ⟨Or.inl ⟨rfl, vq, HWQ.out, HMQ.out⟩, fun _ => ?_⟩
      rcases HBD.out with h | h
      · exact Or.inl (List.eq_nil_of_length_eq_zero h)
      · right; first | exact h | simpa using h
theorem fields_says (its : List It) : FieldsSays its := its_ind FieldsSays fields_any its
end Go.Proofs.YtidfgjgbigedeaaGreatDoor
end
