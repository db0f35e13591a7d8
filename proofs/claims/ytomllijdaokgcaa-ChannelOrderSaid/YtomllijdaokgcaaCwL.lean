/- Channel: the law of order. -/
import Derived.Test.YtomllijdaokgcaaCwK
import Derived.Test.YtomllijdaokgcaaCwM
import Derived.Test.YtomllijdaokgcaaCqB
import Derived.Lib.QuoteBits
namespace Go.Proofs.Ytomllijdaokgcaa
open Go.RowKit Go.Lib Go.Ow Go.Cw Go.Cq
set_option linter.unusedVariables false
set_option linter.unusedSimpArgs false
set_option maxRecDepth 100000

theorem one_byte (c : UInt8) (x : Int) (hx : x = (c.toNat : Int)) (w : World) : (convert 48 9 (.slice (some ⟨w.heap.size, 0, none⟩) 1 1)).run Try.prog (w.alloc (.cells #[.int .u8 x] 5)) = .ok (.string ⟨#[c]⟩) (w.alloc (.cells #[.int .u8 x] 5)) := by
  subst hx
  exact run_convert_bytes_back (P := Try.prog) (w.alloc (.cells #[.int .u8 (c.toNat : Int)] 5)) 48 9 5 ⟨w.heap.size, 0, none⟩ 1 [c] Try.underlying48 Try.underlying5 Try.underlying9 (fun j hj => by
    have : j = 0 := by simp at hj; omega
    subst this
    simp [Addr.add])
theorem ord_may (k : Nat) : mayB ⟨1 + (k : Int) % 3, 5, bN k, 0⟩ = true := mayB_iff.2 ⟨by unfold idB; simp; omega, rfl, by simp only; omega, by show ((1 : Nat) : Int) ≤ 65536; omega, by simp only; omega, by simp only; omega⟩
theorem mine_putk (k : Nat) {B : Nat} {w0 w : World} {fb : Nat} {l : List Gm} (h : Mine B w0 fb l w) (hl : l.length < 65536) : Calls Try.prog 15 #[.pointer (some ⟨fb, 0, none⟩), .agg #[.int .i64 (1 + (k : Int) % 3), .int .i64 5, .string (bN k), .int .i64 0]] w fun e w' => e = .returned (.int .i64 0) ∧ Mine B w0 fb (l ++ [⟨1 + (k : Int) % 3, 5, bN k, 0⟩]) w' := by
  have e : putE l ⟨1 + (k : Int) % 3, 5, bN k, 0⟩ = 0 := by unfold putE; rw [if_pos (ord_may k), if_neg (by omega)]
  have := h.calls (fun r hf => put_any (1 + (k : Int) % 3) 5 (bN k) 0 w fb r l hf)
  unfold putL at this
  rw [e, if_pos rfl] at this
  exact this
theorem mine_all {B : Nat} {w0 w : World} {fb : Nat} {l : List Gm} (h : Mine B w0 fb l w) : Calls Try.prog 16 #[.pointer (some ⟨fb, 0, none⟩)] w fun e w' => Row1 w l e w' := by
  obtain ⟨-, -, r, -, hf⟩ := h
  exact all_any w fb r l hf
set_option maxHeartbeats 16000000 in
theorem law_corder (m : Int) (L : List Ac) (a : Option Addr) (c : Nat) (w : World) (hm : (Lit.int .u8 m).wf = true) (hin : ActsOk w L a) :
    Calls Try.prog 5 #[.int .u8 m, .slice a L.length c] w fun e w' => e = .returned (.bool true) ∧ Below w.heap.size w w' := by
  obtain ⟨n, rfl, hn⟩ : ∃ n : Nat, m = (n : Int) ∧ n < 256 := by
    have hb := bounds_u8 hm
    exact ⟨m.toNat, by omega, by omega⟩
  have HIN := Lib.hid (fun V (hV : Below w.heap.size w V) => hin.rows.keep rfl hV)
  have HL : Hid (L.length * 72 ≤ 140737488351232) := Lib.hid hin.n1
  have HN := Lib.hid hn
  have hwn : wrap64 (n : Int) = (n : Int) := by unfold wrap64; omega
  clear hm hin
  go_enter Try.func5, Try.ntmps5
  go_wp2_with fail
  refine (mine_new w).mono ?_
  rintro e w1 ⟨fb, rfl, hm⟩
  have HM1 := Lib.hid hm
  clear hm
  go_wp2_with fail
  go_loopw [6] (fun ii wr => ∃ (k : Nat) (l : List Gm), ii = .int .i64 (k : Int) ∧ k ≤ n ∧ Mine w.heap.size w fb l wr ∧ Rises k l) (fun ii _ => n - (RowKit.intOf ii).toNat)
  case atStart => exact ⟨0, [], rfl, Nat.zero_le _, HM1.out, Rises.nil⟩
  case round =>
    obtain ⟨k, l, rfl, hk, hmi, hri⟩ := hrel
    obtain ⟨wo, hwo⟩ : ∃ wo, wo = wr := ⟨_, rfl⟩
    subst hwo
    have HM := Lib.hid hmi
    have HR := Lib.hid hri
    clear hmi hri
    by_cases hlt : k < n
    · have hlti : (k : Int) < (n : Int) := by omega
      have hkw : IntKind.i64.wrap ((k : Int) + 1) = (k : Int) + 1 := by rw [IntKind.wrap_i64]; have := HN.out; omega
      have HK1 : Hid (k + 1 ≤ n ∧ n - (k + 1) < n - k ∧ ((k : Int) + 1).toNat = k + 1 ∧ (k : Int) + 1 = ((k + 1 : Nat) : Int) ∧ k < 256) := Lib.hid ⟨by omega, by omega, by omega, by omega, by omega⟩
      have hob := fun V => one_byte (UInt8.ofNat k) ((k : Int) % 256) (by rw [UInt8.toNat_ofNat']; omega) V
      clear hlt hk hn
      go_wp2_with fail
      refine (mine_putk k (HM.out.below (gNx (gAl _ _) (gAl _ _))) (by have := HR.out.len; have := HK1.out; omega)).mono ?_
      rintro e w2 ⟨rfl, hm2⟩
      have HM2 := Lib.hid hm2
      clear hm2 hob
      go_wp2_with fail
      refine ⟨⟨k + 1, _, congrArg (Value.int .i64) HK1.out.2.2.2.1, HK1.out.1, HM2.out, HR.out.put _ rfl⟩, ?_⟩
      show n - ((k : Int) + 1).toNat < n - (k : Int).toNat
      rw [HK1.out.2.2.1]
      exact HK1.out.2.1
    · have hnk : ¬ (k : Int) < (n : Int) := by omega
      have hke : k = n := by omega
      subst hke
      have HKN : Hid (k < 256) := Lib.hid hn
      clear hlt hk hn hnk
      generalize hkq : (k : Int) = nn at *
      have HKQ := Lib.hid hkq
      have hnk : ¬ nn < nn := by omega
      clear hkq
      go_wp2_with fail
      clear hnk
      go_loopw [8] (fun ii wr => ∃ (j : Nat) (l : List Gm), ii = .int .i64 (j : Int) ∧ j ≤ L.length ∧ Mine w.heap.size w fb l wr ∧ Rises k l) (fun ii _ => L.length - (RowKit.intOf ii).toNat)
      case atStart => exact ⟨0, l, rfl, Nat.zero_le _, HM.out, HR.out⟩
      case round =>
        clear HM HR
        obtain ⟨j, l, rfl, hj, hmi, hri⟩ := hrel
        obtain ⟨wq, hwq⟩ : ∃ wq, wq = wr := ⟨_, rfl⟩
        subst hwq
        have HM := Lib.hid hmi
        have HR := Lib.hid hri
        clear hmi hri
        by_cases hlt : j < L.length
        · have hlti : (j : Int) < (L.length : Int) := by omega
          have hj0 : (0 : Int) ≤ (j : Int) := by omega
          have hjw : IntKind.i64.wrap ((j : Int) + 1) = (j : Int) + 1 := by rw [IntKind.wrap_i64]; have := HL.out; omega
          have HJ1 : Hid (j + 1 ≤ L.length ∧ L.length - (j + 1) < L.length - j ∧ ((j : Int) + 1).toNat = j + 1 ∧ (j : Int) + 1 = ((j + 1 : Nat) : Int)) := Lib.hid ⟨by omega, by omega, by omega, by omega⟩
          rcases HIN.out wq HM.out.2.1 with h0 | ⟨b, o, rfl, hb, hc⟩
          · rw [h0] at hlt; exact absurd hlt (by simp)
          have hcj := hc j hlt
          generalize L[j] = ac at *
          obtain ⟨pt, ⟨fr, to_, bs, wt⟩, kd, i, kk⟩ := ac
          obtain ⟨c0, c1, c2, c3, c4, c5, c6, c7⟩ := hcj
          simp only at c0 c1 c2 c3 c4 c5 c6 c7
          clear hc hlt hj hb c1 c2 c3 c4
          have NEXT : ∀ (m : List Gm) (V : World), Mine w.heap.size w fb m V → Rises k m → (∃ (j' : Nat) (l : List Gm), Value.int .i64 ((j : Int) + 1) = .int .i64 (j' : Int) ∧ j' ≤ L.length ∧ Mine w.heap.size w fb l V ∧ Rises k l) ∧ L.length - (RowKit.intOf (Value.int .i64 ((j : Int) + 1))).toNat < L.length - (RowKit.intOf (Value.int .i64 (j : Int))).toNat := fun m V h1 h2 => by
            refine ⟨⟨j + 1, m, congrArg (Value.int .i64) HJ1.out.2.2.2, HJ1.out.1, h1, h2⟩, ?_⟩
            show L.length - ((j : Int) + 1).toNat < L.length - (j : Int).toNat
            rw [HJ1.out.2.2.1]
            exact HJ1.out.2.1
          have HNX := Lib.hid NEXT
          clear NEXT
          cases pt with
          | true =>
            go_wp2_with fail
            exact HNX.out _ _ HM.out HR.out
          | false =>
            by_cases h3 : kd = 3
            · subst h3
              go_wp2_with fail
              exact HNX.out _ _ HM.out HR.out
            by_cases h5 : kd = 5
            · subst h5
              clear h3
              go_wp2_with fail
              exact HNX.out _ _ HM.out HR.out
            have e3 : (kd == 3) = false := by simpa using h3
            have e5 : (kd == 5) = false := by simpa using h5
            have n3 : (kd != 3) = true := by simpa using h3
            have n5 : (kd != 5) = true := by simpa using h5
            have HS : Hid (Rises k (doL l kd i kk)) := Lib.hid (HR.out.sub (bss_do l kd i kk h3 h5))
            have HD := Lib.hid (HM.out.calls (fun r hf => do_any kd i kk wq fb r l hf))
            clear h3 h5
            go_wp2_with fail
            refine HD.out.mono ?_
            rintro e w3 ⟨rfl, hm3⟩
            have HM3 := Lib.hid hm3
            clear hm3 c0 c5 c6 c7
            go_wp2_with fail
            exact HNX.out _ _ HM3.out HS.out
        · have hnj : ¬ (j : Int) < (L.length : Int) := by omega
          have HA := Lib.hid (mine_all HM.out)
          clear hlt hj
          go_wp2_with fail
          refine HA.out.mono ?_
          rintro e w3 ⟨hb3, v, r, rfl, hr3, hrw⟩
          obtain ⟨va, vc, rfl⟩ := hrw.slice
          have HB3 : Hid (Below w.heap.size w w3 ∧ w.heap.size ≤ w3.heap.size) := Lib.hid ⟨(HM.out.below hb3).2.1, (HM.out.below hb3).2.1.size⟩
          have HRW := Lib.hid (fun V (hV : Below w3.heap.size w3 V) => hrw.below hV)
          have hlen := HR.out.len
          have HLN := Lib.hid hlen
          have hle : (l.length : Int) ≤ nn := by have := HKQ.out; omega
          clear hb3 hr3 hrw hlen hnj
          go_wp2_with fail
          go_loopw [11] (fun ii wr => ∃ i : Nat, ii = .int .i64 (i : Int) ∧ 1 ≤ i ∧ (i ≤ l.length ∨ i = 1) ∧ Below w3.heap.size w3 wr) (fun ii _ => l.length - (RowKit.intOf ii).toNat)
          case atStart => exact ⟨1, rfl, Nat.le_refl _, Or.inr rfl, Below.refl _ _⟩
          case round =>
            obtain ⟨i, rfl, hi1, hi2, hbr⟩ := hrel
            obtain ⟨wv, hwv⟩ : ∃ wv, wv = wr := ⟨_, rfl⟩
            subst hwv
            have HBR := Lib.hid hbr
            clear hbr
            by_cases hlt : i < l.length
            · have hlti : (i : Int) < (l.length : Int) := by omega
              obtain ⟨p, hp⟩ : ∃ p, i = p + 1 := ⟨i - 1, by omega⟩
              have hpl : p < l.length := by omega
              have hplti : (p : Int) < (l.length : Int) := by omega
              have hp0 : (0 : Int) ≤ (p : Int) := by omega
              have hi0 : (0 : Int) ≤ (i : Int) := by omega
              have hsub : IntKind.i64.wrap ((i : Int) - 1) = (p : Int) := by rw [IntKind.wrap_i64]; have := HLN.out; have := HKN.out; omega
              have hiw : IntKind.i64.wrap ((i : Int) + 1) = (i : Int) + 1 := by rw [IntKind.wrap_i64]; have := HLN.out; have := HKN.out; omega
              have HNX : Hid (∀ (V : World), Below w3.heap.size w3 V → (∃ i' : Nat, Value.int .i64 ((i : Int) + 1) = .int .i64 (i' : Int) ∧ 1 ≤ i' ∧ (i' ≤ l.length ∨ i' = 1) ∧ Below w3.heap.size w3 V) ∧ l.length - (RowKit.intOf (Value.int .i64 ((i : Int) + 1))).toNat < l.length - (RowKit.intOf (Value.int .i64 (i : Int))).toNat) := Lib.hid (fun V h1 => by
                refine ⟨⟨i + 1, congrArg (Value.int .i64) (by omega), by omega, Or.inl (by omega), h1⟩, ?_⟩
                show l.length - ((i : Int) + 1).toNat < l.length - (i : Int).toNat
                omega)
              obtain ⟨na, nb, hab, hbn, ea, eb⟩ := HR.out.two (j := p) (by omega)
              have eb2 : l[i].bs = bN nb := by subst hp; exact eb
              obtain ⟨x, hx⟩ : ∃ x, x = UInt8.ofNat na := ⟨_, rfl⟩
              obtain ⟨y, hy⟩ : ∃ y, y = UInt8.ofNat nb := ⟨_, rfl⟩
              have hxy : ¬ ((y.toNat : Int) ≤ (x.toNat : Int)) := by
                rw [hx, hy, UInt8.toNat_ofNat', UInt8.toNat_ofNat']
                have := HN.out
                have := HKN.out
                omega
              have ex : l[p].bs = ⟨#[x]⟩ := by rw [ea, hx]; rfl
              have ey : l[i].bs = ⟨#[y]⟩ := by rw [eb2, hy]; rfl
              obtain ⟨o, cap, e1, hcap, hlow, hcur, hra, hth, hml⟩ := (HRW.out wv HBR.out).at (by omega)
              simp only [Value.slice.injEq, true_and] at e1
              obtain ⟨rfl, rfl⟩ := e1
              obtain ⟨-, -, k2, -⟩ := gm_cells hra hlt
              obtain ⟨-, -, k6, -⟩ := gm_cells hra hpl
              rw [ey] at k2
              rw [ex] at k6
              have HSS : Hid (∀ V, Below wv.heap.size wv V → V.cell? ⟨r, o + i * 4 + 2, none⟩ = some (.string ⟨#[y]⟩) ∧ V.cell? ⟨r, o + p * 4 + 2, none⟩ = some (.string ⟨#[x]⟩)) := Lib.hid (fun V hV => ⟨(World.cell?_of_block (a := ⟨r, o + i * 4 + 2, none⟩) (hV.block r hlow)).trans k2, (World.cell?_of_block (a := ⟨r, o + p * 4 + 2, none⟩) (hV.block r hlow)).trans k6⟩)
              have HB1 : Hid (Below w3.heap.size w3 wv.drew) := Lib.hid (HBR.out.drew)
              clear hx hy ex ey ea eb eb2 hab hbn hcap hlow hcur hra hth hml k2 k6 hp hlt hpl hi1 hi2
              go_upto_region 20 with (fail)
              refine wp_region_held_drew (S := fun V => V.cell? ⟨r, o + i * 4 + 2, none⟩ = some (.string ⟨#[y]⟩) ∧ V.cell? ⟨r, o + p * 4 + 2, none⟩ = some (.string ⟨#[x]⟩)) (by kernel_rfl) (HSS.out _ (Below.drew (Below.refl _ _))) (fun hH => ?_)
              have hs0 := HSS.out _ (Below.drew (Below.refl _ _))
              generalize wv.drew = V0 at *
              refine tk 0 (by assumption) rfl (by kernel_rfl) (fun _ _ _ h => h) (fun V hV => by go_simp; try with_reducible rfl) ?_
              try simp only [Act.put, sqA, sqB, sqC, sqD, sqE, sqF]
              refine tk 1 (by assumption) rfl (by kernel_rfl) (fun _ _ _ h => h) (fun V hV => by go_simp; try with_reducible rfl) ?_
              try simp only [Act.put, sqA, sqB, sqC, sqD, sqE, sqF]
              refine tk 2 (by assumption) rfl (by kernel_rfl) (fun _ _ _ h => h) (fun V hV => by go_simp; try with_reducible rfl) ?_
              try simp only [Act.put, sqA, sqB, sqC, sqD, sqE, sqF]
              refine tk 3 (by assumption) rfl (by kernel_rfl) (fun _ _ _ h => h) (fun V hV => by go_simp; try with_reducible rfl) ?_
              try simp only [Act.put, sqA, sqB, sqC, sqD, sqE, sqF]
              refine tk 4 (by assumption) rfl (by kernel_rfl) (fun _ _ _ h => h) (fun V hV => by obtain ⟨hx0, hx1⟩ := hV; go_simp; try with_reducible rfl) ?_
              try simp only [Act.put, sqA, sqB, sqC, sqD, sqE, sqF]
              refine tk 5 (by assumption) rfl (by kernel_rfl) (fun _ _ _ h => h) (fun V hV => by go_simp; try with_reducible rfl) ?_
              try simp only [Act.put, sqA, sqB, sqC, sqD, sqE, sqF]
              refine tk 6 (by assumption) rfl (by kernel_rfl) (fun _ _ _ h => h) (fun V hV => by go_simp; try with_reducible rfl) ?_
              try simp only [Act.put, sqA, sqB, sqC, sqD, sqE, sqF]
              refine tk 7 (by assumption) rfl (by kernel_rfl) (fun _ _ _ h => h) (fun V hV => by go_simp; try with_reducible rfl) ?_
              try simp only [Act.put, sqA, sqB, sqC, sqD, sqE, sqF]
              refine tk 8 (by assumption) rfl (by kernel_rfl) (fun _ _ _ h => h) (fun V hV => by go_simp; try with_reducible rfl) ?_
              try simp only [Act.put, sqA, sqB, sqC, sqD, sqE, sqF]
              refine tk 9 (by assumption) rfl (by kernel_rfl) (fun _ _ _ h => h) (fun V hV => by go_simp; try with_reducible rfl) ?_
              try simp only [Act.put, sqA, sqB, sqC, sqD, sqE, sqF]
              refine tk 10 (by assumption) rfl (by kernel_rfl) (fun _ _ _ h => h) (fun V hV => by go_simp; try with_reducible rfl) ?_
              try simp only [Act.put, sqA, sqB, sqC, sqD, sqE, sqF]
              refine tk 11 (by assumption) rfl (by kernel_rfl) (fun _ _ _ h => h) (fun V hV => by obtain ⟨hx0, hx1⟩ := hV; go_simp; try with_reducible rfl) ?_
              try simp only [Act.put, sqA, sqB, sqC, sqD, sqE, sqF]
              refine tk 12 (by assumption) rfl (by kernel_rfl) (fun _ _ _ h => h) (fun V hV => by go_simp; try with_reducible rfl) ?_
              try simp only [Act.put, sqA, sqB, sqC, sqD, sqE, sqF]
              refine tk 13 (by assumption) rfl (by kernel_rfl) (fun _ _ _ h => h) (fun V hV => by go_simp; try with_reducible rfl) ?_
              try simp only [Act.put, sqA, sqB, sqC, sqD, sqE, sqF]
              refine wpAnyH_done (by kernel_rfl) ?_ _
              clear hs0 hH
              go_wp2_with fail
              · rename_i hbad
                exact absurd (show (y.toNat : Int) ≤ (x.toNat : Int) by exact_mod_cast (show y.toNat ≤ x.toNat from hbad)) (by omega)
              · exact HNX.out _ HB1.out
            · have hnl : ¬ (i : Int) < (l.length : Int) := by omega
              have HAW := Lib.hid (awake_any wv)
              clear hlt hi1 hi2
              go_wp2_with fail
              refine HAW.out.mono ?_
              rintro e w5 ⟨rfl, hb5⟩
              have HB5 : Hid (Below w.heap.size w w5) := Lib.hid (HB3.out.1.trans ((HBR.out.trans (hb5.mono HBR.out.size)).mono HB3.out.2))
              clear hb5
              go_wp2_with fail
              go_ret
              exact ⟨rfl, HB5.out⟩
end Go.Proofs.Ytomllijdaokgcaa
