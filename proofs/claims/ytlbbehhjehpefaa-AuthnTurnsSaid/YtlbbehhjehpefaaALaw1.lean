/- Layer 3: AuthnNumbers. -/
import Derived.Test.YtlbbehhjehpefaaADisR
import Derived.Test.YtlbbehhjehpefaaAwake3
import Derived.Deep.CutRange
namespace Go.Proofs.Ytlbbehhjehpefaa
open Go.RowKit
set_option linter.unusedVariables false

/-- F and Clients, within their limits -/
def clF (F : Int) : Int := max 0 (min F 2)
def clC (C : Int) : Int := max 0 (min C 8)

/-- both authorities, made in memory of their own -/
structure Both (w0 W : World) (g bm g2 : Nat) (v : Value) (f c : Int) : Prop where
  au : Au W g bm f c []
  dt : DT W g2 f c v [] (fun k => w0.heap.size ≤ k ∧ k ≠ g ∧ k ≠ bm)
  below : Below w0.heap.size w0 W
  at_g : w0.heap.size ≤ g
  at_bm : w0.heap.size ≤ bm

theorem Both.one {w0 w1 w2 w3 : World} {g bm g2 : Nat} {v : Value} {f c : Int} (h0 : Below w0.heap.size w0 w1) (hg : w1.heap.size ≤ g) (hbm : w1.heap.size ≤ bm) (hA : Au w2 g bm f c []) (h1 : Below w1.heap.size w1 w2)
    (hD : DT w3 g2 f c v [] (fun k => w2.heap.size ≤ k)) (h2 : Below w2.heap.size w2 w3) : Both w0 w3 g bm g2 v f c := by
  have s0 := h0.size
  have s1 := h1.size
  have lg := hA.1.lt
  have lb := hA.2.lt
  exact ⟨hA.below h2 (Nat.le_refl _), hD.mono (fun k _ hk => ⟨by omega, by omega, by omega⟩), (h0.trans (h1.mono s0)).trans (h2.mono (by omega)), by omega, by omega⟩
theorem Both.two {w0 w1 w2 w3 : World} {g bm g2 : Nat} {v : Value} {f c : Int} (h0 : Below w0.heap.size w0 w1) (hD : DT w2 g2 f c v [] (fun k => w1.heap.size ≤ k)) (h1 : Below w1.heap.size w1 w2)
    (hg : w2.heap.size ≤ g) (hbm : w2.heap.size ≤ bm) (hA : Au w3 g bm f c []) (h2 : Below w2.heap.size w2 w3) : Both w0 w3 g bm g2 v f c := by
  have s0 := h0.size
  have s1 := h1.size
  exact ⟨hA, (hD.mono (fun k hk hk' => ⟨by omega, by omega, by omega⟩)).below h2, (h0.trans (h1.mono s0)).trans (h2.mono (by omega)), by omega, by omega⟩

set_option maxHeartbeats 1000000 in
theorem numbers_any (g bm g2 : Nat) (f c s : Int) (v : Value) (w : World) (h : AuH w g bm f c) (h2 : RaH w g2 f c v) (hs : ok64 s) :
    Calls Try.prog 13 #[.pointer (some ⟨g, 0, none⟩), .pointer (some ⟨g2, 0, none⟩), .int .i64 s] w (Yes3 w) := by
  obtain ⟨c0, c1, c2, c3⟩ := h2.open
  have hf := h.2
  go_enter Try.func13, Try.ntmps13
  go_wp2
  simp only [List.append_eq, List.cons_append, List.nil_append]
  go_quiet (first
    | (go_at_call 29; exact Calls.quiet_of_same (N_any (w := w.drewN _) h))
    | (go_at_call 31; exact Calls.quiet_of_same (rN_any (w := w.drewN _) h2))
    | (go_at_call 27; exact Calls.quiet_of_same (F_any (w := w.drewN _) h))
    | (go_at_call 32; exact Calls.quiet_of_same (Clients_any (w := w.drewN _) h))
    | (go_at_call 26; exact Calls.quiet_of_same (Quorum_any (w := w.drewN _) h))
    | (go_at_call 33; exact Calls.quiet_of_same (rQuorum_any (w := w.drewN _) h2))
    | (go_at_call 28; exact Calls.quiet_of_same (Weak_any (w := w.drewN _) h))
    | (go_at_call 34; exact Calls.quiet_of_same (rWeak_any (w := w.drewN _) h2))
    | (go_at_call 30; exact Calls.quiet_of_same (Primary_any (w := w.drewN _) h s hs))
    | (go_at_call 35; exact Calls.quiet_of_same (rPrimary_any (w := w.drewN _) h2 s hs))
    | (go_at_call 36; exact Calls.quiet_of_same (Org_any (w := w.drewN _) h s hs))
    | (go_at_call 37; exact Calls.quiet_of_same (rOrg_any (w := w.drewN _) h2 s hs))
    | (go_at_call 38; exact Calls.quiet_of_same (Known_any (w := w.drewN _) h s hs))
    | (go_at_call 39; exact Calls.quiet_of_same (rKnown_any (w := w.drewN _) h2 s hs))
    | (go_at_call 40; exact Calls.quiet_of_same (Replica_any (w := w.drewN _) h s))
    | (go_at_call 41; exact Calls.quiet_of_same (rReplica_any (w := w.drewN _) h2 s)))
  go_wp2
  go_ret
  exact ⟨rfl, below_drewN (Below.refl _ _) _⟩

end Go.Proofs.Ytlbbehhjehpefaa
