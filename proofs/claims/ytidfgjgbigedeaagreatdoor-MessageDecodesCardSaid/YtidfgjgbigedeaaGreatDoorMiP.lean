/- Messages: Same over whole messages. -/
import Derived.Test.YtidfgjgbigedeaaGreatDoorMiA
import Derived.Test.YtidfgjgbigedeaaGreatDoorMiK
namespace Go.Proofs.YtidfgjgbigedeaaGreatDoor
open Go.RowKit Go.Lib Go.Wq Go.Mq
set_option linter.unusedVariables false
set_option linter.unusedSimpArgs false
set_option maxRecDepth 100000

theorem rSameM (m m2 : Ms) (na : Option Addr) (nc : Nat) (na2 : Option Addr) (nc2 : Nat) (w : World) (hin : NewsIn w w.heap.size m.news na) (hin2 : NewsIn w w.heap.size m2.news na2) (hl : m.news.length < 4611686018427387904) :
    Calls Tryz.prog 15 #[.agg (msCells m na nc).toArray, .agg (msCells m2 na2 nc2).toArray] w fun e w' => IsSame (m = m2) w e w' := by
  obtain ⟨k, n, e, s, l, kd, fr, bk, tw, hm, hp, sr, cd, nm, id, at_, bd⟩ := m
  obtain ⟨k2, n2, e2, s2, l2, kd2, fr2, bk2, tw2, hm2, hp2, sr2, cd2, nm2, id2, at2, bd2⟩ := m2
  exact rSame_any k n e s l na nc kd fr bk tw hm hp sr cd nm id at_ bd k2 n2 e2 s2 l2 na2 nc2 kd2 fr2 bk2 tw2 hm2 hp2 sr2 cd2 nm2 id2 at2 bd2 w.heap.size w hin hin2 (Nat.le_refl _) hl
theorem out_len (s : List UInt8) : (outM s).news.length < 4611686018427387904 := by
  unfold outM
  cases h : decM s with
  | none => simp [msZ]
  | some m => exact (dec_is h).2.2.2.1.len
end Go.Proofs.YtidfgjgbigedeaaGreatDoor
