/- The contract of the model's Acted. -/
import Derived.Test.YtkcpoibhlnjldaaAcS6
import Derived.Test.YtkcpoibhlnjldaaAcS7
import Derived.Test.YtkcpoibhlnjldaaAcS8
namespace Go.Proofs.Ytkcpoibhlnjldaa
open Go.ChangeShapes Go.WideShapes Go.ChangeAt Go.RowKit
set_option linter.unusedVariables false
theorem specActed_any (n : Nd) (a : Ac) (w : World) (hs : SmN n) (hn0 : n.sa = none → n.sc = 0) (hp0 : ∀ p ∈ n.peers, p.a = none → p.cap = 0) (h : NodeAt w n) :
  Calls Try.prog 8 #[ndV n, a.v] w fun e w' => ActedEnd [] (actM n.d a) w e w' := by
 obtain ⟨kd, aid, ato, amt, ⟨m_fr, m_to, m_kd, m_seq, m_amt⟩⟩ := a
 cases hno : nodeB n.d
 ·exact acted_wrong n kd aid ato amt m_fr m_to m_kd m_seq m_amt w hs hn0 hp0 h hno
 cases hfo : actB n.id ⟨kd, aid, ato, amt, ⟨m_fr, m_to, m_kd, m_seq, m_amt⟩⟩
 ·exact acted_form n kd aid ato amt m_fr m_to m_kd m_seq m_amt w hs hn0 hp0 h hno hfo
 rcases actB_kinds hfo with q | q | q | q | q
 ·have q : kd = 1 := q
  subst q
  exact acted_money1 n aid ato amt m_fr m_to m_kd m_seq m_amt w hs hn0 hp0 h hno hfo
 ·have q : kd = 2 := q
  subst q
  exact acted_money2 n aid ato amt m_fr m_to m_kd m_seq m_amt w hs hn0 hp0 h hno hfo
 ·have q : kd = 3 := q
  subst q
  cases hf : fi (n.peers.map Pr.id) ato with
  | none => exact give_nopeer n aid ato amt m_fr m_to m_kd m_seq m_amt w hs hn0 hp0 h hno hfo hf
  | some k =>
   obtain ⟨hk', _⟩ := fi_some hf
   have hk : k < n.peers.length := by simpa using hk'
   by_cases hq : n.has < amt
   ·exact give_small n aid ato amt m_fr m_to m_kd m_seq m_amt w hs hn0 hp0 h hno hfo k hk hf hq
   ·cases hpk : pkOk n.peers[k].E amt
    ·exact give_bad n aid ato amt m_fr m_to m_kd m_seq m_amt w hs hn0 hp0 h hno hfo k hk hf hq hpk
    ·exact give_ok n aid ato amt m_fr m_to m_kd m_seq m_amt w hs hn0 hp0 h hno hfo k hk hf hq hpk
 ·have q : kd = 4 := q
  subst q
  exact acted_take n aid ato amt m_fr m_to m_kd m_seq m_amt w hs hn0 hp0 h hno hfo
 ·have q : kd = 5 := q
  subst q
  exact acted_tick n aid ato amt m_fr m_to m_kd m_seq m_amt w hs hn0 hp0 h hno hfo
end Go.Proofs.Ytkcpoibhlnjldaa
