/- sc: BMem ANum ATab ASign ACheck AEnv ARef ARefS LMem Concat Steps Steps2 (made by shake.py). -/
import Derived.Maps.OwnSet
import Derived.DeepKeys4
import Derived.Deep.RegionHeld3
import Derived.Deep.QuietTactic
import Derived.BigQuiet
import Derived.Laws.ResultCell
import Derived.Laws.Rows
import Derived.Deep.RegionLaw
import Derived.Lib.AppendZeros
import Derived.Test.YticfnjihjpgneaaGreatsb
namespace Go.Proofs.YticfnjihjpgneaaGreat
open Go.RowKit Go.ChangeShapes Go.WideShapes Go.ChangeAt
set_option linter.unusedVariables false
set_option linter.unusedSimpArgs false
set_option maxRecDepth 20000

def EnvP (w : World) (p : Addr) (e : Int × List UInt8) : Prop := w.cell? p = some (.int .i64 e.1) ∧ ∃ bv, w.cell? ⟨p.block, p.off + 1, none⟩ = some bv ∧ Bs w bv e.2
def ResP (w : World) (p : Addr) (r : Int × Int) : Prop := w.cell? p = some (.int .i64 r.1) ∧ w.cell? ⟨p.block, p.off + 1, none⟩ = some (.int .i64 r.2)
abbrev EnvK (w : World) : Option Addr → Nat → List (Int × List UInt8) → Prop := RowM w 2 EnvP
abbrev ResK (w : World) : Option Addr → Nat → List (Int × Int) → Prop := RowM w 2 ResP
theorem EnvP.below {w w' : World} {p : Addr} {e : Int × List UInt8} (h : EnvP w p e) (hb : Below w.heap.size w w') (hl : p.block < w.heap.size) : EnvP w' p e := by
  obtain ⟨h1, bv, h2, h3⟩ := h
  exact ⟨cellM hb hl h1, bv, cellM (p := ⟨p.block, p.off + 1, none⟩) hb hl h2, h3.below hb (Nat.le_refl _)⟩
theorem EnvK.below {w w' : World} {A : Option Addr} {c : Nat} {l : List (Int × List UInt8)} (h : EnvK w A c l) (hb : Below w.heap.size w w') : EnvK w' A c l := RowM.below (fun p x hl h => EnvP.below h hb hl) h hb.size
theorem ResK.below {w w' : World} {A : Option Addr} {c : Nat} {l : List (Int × Int)} (h : ResK w A c l) (hb : Below w.heap.size w w') : ResK w' A c l := RowM.below (fun p x hl h => ⟨cellM hb hl h.1, cellM (p := ⟨p.block, p.off + 1, none⟩) hb hl h.2⟩) h hb.size
structure BlkK (w : World) (b : Blk) (A : Option Addr) (c : Nat) (D : Option Addr) (d : Nat) : Prop where
  q : EnvK w A c b.reqs
  r : ResK w D d b.ress
theorem BlkK.below {w w' : World} {b : Blk} {A : Option Addr} {c : Nat} {D : Option Addr} {d : Nat} (h : BlkK w b A c D d) (hb : Below w.heap.size w w') : BlkK w' b A c D d := ⟨h.q.below hb, h.r.below hb⟩
section
variable {H : Type} {enc : TypeId × Value → H} {W : World} {sp : Nat → Bool} {hd : Bool} {base : Nat} {v : Value} {d : DataW H} {ps : List MemPlace}
end
end Go.Proofs.YticfnjihjpgneaaGreat

namespace Go.Proofs.YticfnjihjpgneaaGreat
open Go.RowKit
set_option linter.unusedVariables false
set_option linter.unusedSimpArgs false
set_option maxRecDepth 20000

def repB (f s : Int) : Bool := decide (0 ≤ s) && decide (s < 3 * f + 1)
def clB (c s : Int) : Bool := decide (1000 ≤ s) && decide (s - 1000 < c)
def knB (f c s : Int) : Bool := repB f s || clB c s
def primE (f v : Int) : Int := if v < 0 then 0 else v % (3 * f + 1)
def ok64 (s : Int) : Prop := -9223372036854775808 ≤ s ∧ s ≤ 9223372036854775807

def AuH (w : World) (g bm : Nat) (f c : Int) : Prop :=
  w.heap[g]? = some (.cells #[.int .i64 (3 * f + 1), .int .i64 f, .int .i64 c, .map (some bm)] 123 (0, 0)) ∧ 0 ≤ f ∧ f ≤ 2 ∧ 0 ≤ c ∧ c ≤ 8
def RaH (w : World) (g : Nat) (f c : Int) (v : Value) : Prop :=
  w.heap[g]? = some (.cells #[.bool true, .int .i64 f, .int .i64 c, v] 116 (0, 0)) ∧ 0 ≤ f ∧ f ≤ 2 ∧ 0 ≤ c ∧ c ≤ 8

theorem AuH.open {w : World} {g bm : Nat} {f c : Int} (h : AuH w g bm f c) : w.cell? ⟨g, 0, none⟩ = some (.int .i64 (3 * f + 1)) ∧ w.cell? ⟨g, 1, none⟩ = some (.int .i64 f) ∧ w.cell? ⟨g, 2, none⟩ = some (.int .i64 c) ∧ w.cell? ⟨g, 3, none⟩ = some (.map (some bm)) := by
  refine ⟨?_, ?_, ?_, ?_⟩ <;> (rw [cell_of_row _ _ _ _ _ (0, 0) h.1]; rfl)
theorem RaH.open {w : World} {g : Nat} {f c : Int} {v : Value} (h : RaH w g f c v) : w.cell? ⟨g, 0, none⟩ = some (.bool true) ∧ w.cell? ⟨g, 1, none⟩ = some (.int .i64 f) ∧ w.cell? ⟨g, 2, none⟩ = some (.int .i64 c) ∧ w.cell? ⟨g, 3, none⟩ = some v := by
  refine ⟨?_, ?_, ?_, ?_⟩ <;> (rw [cell_of_row _ _ _ _ _ (0, 0) h.1]; rfl)

def Says (v : Value) (w : World) (e : Ending) (w' : World) : Prop := e = .returned v ∧ w' = w

section
variable {w : World} {g bm : Nat} {f c : Int} {v : Value}

theorem N_any (h : AuH w g bm f c) : Calls Tryz.prog 25 #[.pointer (some ⟨g, 0, none⟩)] w (Says (.int .i64 (3 * f + 1)) w) := by
  obtain ⟨c0, c1, c2, c3⟩ := h.open
  go_enter Tryz.func25, Tryz.ntmps25
  go_wp2
  go_ret
  exact ⟨rfl, rfl⟩
theorem F_any (h : AuH w g bm f c) : Calls Tryz.prog 21 #[.pointer (some ⟨g, 0, none⟩)] w (Says (.int .i64 f) w) := by
  obtain ⟨c0, c1, c2, c3⟩ := h.open
  go_enter Tryz.func21, Tryz.ntmps21
  go_wp2
  go_ret
  exact ⟨rfl, rfl⟩
theorem Clients_any (h : AuH w g bm f c) : Calls Tryz.prog 203 #[.pointer (some ⟨g, 0, none⟩)] w (Says (.int .i64 c) w) := by
  obtain ⟨c0, c1, c2, c3⟩ := h.open
  go_enter Tryz.func203, Tryz.ntmps203
  go_wp2
  go_ret
  exact ⟨rfl, rfl⟩
theorem Primary_any (h : AuH w g bm f c) (s : Int) (hs : ok64 s) : Calls Tryz.prog 102 #[.pointer (some ⟨g, 0, none⟩), .int .i64 s] w (Says (.int .i64 (primE f s)) w) := by
  obtain ⟨-, hf0, hf2, -, -⟩ := id h
  have hn : 3 * f + 1 ≠ 0 := by omega
  by_cases hlt : s < 0
  · have hp : primE f s = 0 := by unfold primE; rw [if_pos hlt]
    rw [hp]
    go_enter Tryz.func102, Tryz.ntmps102
    go_wp2
    go_ret
    exact ⟨rfl, rfl⟩
  · have hp : primE f s = s % (3 * f + 1) := by unfold primE; rw [if_neg hlt]
    rw [hp]
    go_enter Tryz.func102, Tryz.ntmps102
    go_wp2_with (first
      | (go_at_call 25; refine (N_any h).mono ?_; rintro e w' ⟨rfl, rfl⟩))
    go_ret
    exact ⟨rfl, rfl⟩

theorem Replica_any (h : AuH w g bm f c) (s : Int) : Calls Tryz.prog 87 #[.pointer (some ⟨g, 0, none⟩), .int .i64 s] w (Says (.bool (repB f s)) w) := by
  by_cases hlt : 0 ≤ s
  · have hd : decide (0 ≤ s) = true := by simpa using hlt
    have hr : repB f s = decide (s < 3 * f + 1) := by unfold repB; rw [hd, Bool.true_and]
    rw [hr]
    go_enter Tryz.func87, Tryz.ntmps87
    go_wp2_with (first
      | (go_at_call 25; refine (N_any h).mono ?_; rintro e w' ⟨rfl, rfl⟩))
    go_ret
    exact ⟨rfl, rfl⟩
  · have hd : decide (0 ≤ s) = false := by simpa using hlt
    have hr : repB f s = false := by unfold repB; rw [hd, Bool.false_and]
    rw [hr]
    go_enter Tryz.func87, Tryz.ntmps87
    go_wp2
    go_ret
    exact ⟨rfl, rfl⟩
theorem client_any (h : AuH w g bm f c) (s : Int) (hs : ok64 s) : Calls Tryz.prog 177 #[.pointer (some ⟨g, 0, none⟩), .int .i64 s] w (Says (.bool (clB c s)) w) := by
  by_cases hlt : 1000 ≤ s
  · have hd : decide (1000 ≤ s) = true := by simpa using hlt
    have hr : clB c s = decide (s - 1000 < c) := by unfold clB; rw [hd, Bool.true_and]
    have hw : IntKind.i64.wrap (s - 1000) = s - 1000 := by have := hs.1; have := hs.2; rw [IntKind.wrap_i64]; omega
    rw [hr]
    go_enter Tryz.func177, Tryz.ntmps177
    go_wp2_with (first
      | (go_at_call 203; refine (Clients_any h).mono ?_; rintro e w' ⟨rfl, rfl⟩))
    go_ret
    exact ⟨rfl, rfl⟩
  · have hd : decide (1000 ≤ s) = false := by simpa using hlt
    have hr : clB c s = false := by unfold clB; rw [hd, Bool.false_and]
    rw [hr]
    go_enter Tryz.func177, Tryz.ntmps177
    go_wp2
    go_ret
    exact ⟨rfl, rfl⟩
theorem Known_any (h : AuH w g bm f c) (s : Int) (hs : ok64 s) : Calls Tryz.prog 152 #[.pointer (some ⟨g, 0, none⟩), .int .i64 s] w (Says (.bool (knB f c s)) w) := by
  have hr := Replica_any h s
  have hc := client_any h s hs
  unfold knB
  rcases hb : repB f s with _ | _
  · rw [hb] at hr
    rw [Bool.false_or]
    clear hb
    go_enter Tryz.func152, Tryz.ntmps152
    go_wp2_with (first
      | (go_at_call 87; refine hr.mono ?_; rintro e w' ⟨rfl, rfl⟩)
      | (go_at_call 177; refine hc.mono ?_; rintro e w' ⟨rfl, rfl⟩))
    go_ret
    exact ⟨rfl, rfl⟩
  · rw [hb] at hr
    rw [Bool.true_or]
    clear hb
    go_enter Tryz.func152, Tryz.ntmps152
    go_wp2_with (first
      | (go_at_call 87; refine hr.mono ?_; rintro e w' ⟨rfl, rfl⟩))
    go_ret
    exact ⟨rfl, rfl⟩
end

/-! the document's -/
section
variable {w : World} {g : Nat} {f c : Int} {v : Value}
theorem rN_any (h : RaH w g f c v) : Calls Tryz.prog 56 #[.pointer (some ⟨g, 0, none⟩)] w (Says (.int .i64 (3 * f + 1)) w) := by
  obtain ⟨-, h0⟩ := id h
  obtain ⟨c0, c1, c2, c3⟩ := h.open
  go_enter Tryz.func56, Tryz.ntmps56
  go_wp2
  go_ret
  exact ⟨ret_int (by first | rfl | omega | (rw [IntKind.wrap_i64]; omega)), rfl⟩
theorem rPrimary_any (h : RaH w g f c v) (s : Int) (hs : ok64 s) : Calls Tryz.prog 18 #[.pointer (some ⟨g, 0, none⟩), .int .i64 s] w (Says (.int .i64 (primE f s)) w) := by
  obtain ⟨-, hf0, hf2, -, -⟩ := id h
  obtain ⟨c0, c1, c2, c3⟩ := h.open
  have hn : 3 * f + 1 ≠ 0 := by omega
  by_cases hlt : s < 0
  · have hp : primE f s = 0 := by unfold primE; rw [if_pos hlt]
    rw [hp]
    go_enter Tryz.func18, Tryz.ntmps18
    go_wp2
    go_ret
    exact ⟨rfl, rfl⟩
  · have hp : primE f s = s % (3 * f + 1) := by unfold primE; rw [if_neg hlt]
    rw [hp]
    go_enter Tryz.func18, Tryz.ntmps18
    go_wp2_with (first
      | (go_at_call 56; refine (rN_any h).mono ?_; rintro e w' ⟨rfl, rfl⟩))
    go_ret
    exact ⟨rfl, rfl⟩
theorem rReplica_any (h : RaH w g f c v) (s : Int) : Calls Tryz.prog 92 #[.pointer (some ⟨g, 0, none⟩), .int .i64 s] w (Says (.bool (repB f s)) w) := by
  by_cases hlt : 0 ≤ s
  · have hd : decide (0 ≤ s) = true := by simpa using hlt
    have hr : repB f s = decide (s < 3 * f + 1) := by unfold repB; rw [hd, Bool.true_and]
    rw [hr]
    go_enter Tryz.func92, Tryz.ntmps92
    go_wp2_with (first
      | (go_at_call 56; refine (rN_any h).mono ?_; rintro e w' ⟨rfl, rfl⟩))
    go_ret
    exact ⟨rfl, rfl⟩
  · have hd : decide (0 ≤ s) = false := by simpa using hlt
    have hr : repB f s = false := by unfold repB; rw [hd, Bool.false_and]
    rw [hr]
    go_enter Tryz.func92, Tryz.ntmps92
    go_wp2
    go_ret
    exact ⟨rfl, rfl⟩
theorem rClient_any (h : RaH w g f c v) (s : Int) (hs : ok64 s) : Calls Tryz.prog 162 #[.pointer (some ⟨g, 0, none⟩), .int .i64 s] w (Says (.bool (clB c s)) w) := by
  obtain ⟨c0, c1, c2, c3⟩ := h.open
  by_cases hlt : 1000 ≤ s
  · have hd : decide (1000 ≤ s) = true := by simpa using hlt
    have hr : clB c s = decide (s - 1000 < c) := by unfold clB; rw [hd, Bool.true_and]
    have hw : IntKind.i64.wrap (s - 1000) = s - 1000 := by have := hs.1; have := hs.2; rw [IntKind.wrap_i64]; omega
    rw [hr]
    go_enter Tryz.func162, Tryz.ntmps162
    go_wp2
    go_ret
    exact ⟨rfl, rfl⟩
  · have hd : decide (1000 ≤ s) = false := by simpa using hlt
    have hr : clB c s = false := by unfold clB; rw [hd, Bool.false_and]
    rw [hr]
    go_enter Tryz.func162, Tryz.ntmps162
    go_wp2
    go_ret
    exact ⟨rfl, rfl⟩
theorem rKnown_any (h : RaH w g f c v) (s : Int) (hs : ok64 s) : Calls Tryz.prog 137 #[.pointer (some ⟨g, 0, none⟩), .int .i64 s] w (Says (.bool (knB f c s)) w) := by
  have hr := rReplica_any h s
  have hc := rClient_any h s hs
  unfold knB
  rcases hb : repB f s with _ | _
  · rw [hb] at hr
    rw [Bool.false_or]
    clear hb
    go_enter Tryz.func137, Tryz.ntmps137
    go_wp2_with (first
      | (go_at_call 92; refine hr.mono ?_; rintro e w' ⟨rfl, rfl⟩)
      | (go_at_call 162; refine hc.mono ?_; rintro e w' ⟨rfl, rfl⟩))
    go_ret
    exact ⟨rfl, rfl⟩
  · rw [hb] at hr
    rw [Bool.true_or]
    clear hb
    go_enter Tryz.func137, Tryz.ntmps137
    go_wp2_with (first
      | (go_at_call 92; refine hr.mono ?_; rintro e w' ⟨rfl, rfl⟩))
    go_ret
    exact ⟨rfl, rfl⟩
end

end Go.Proofs.YticfnjihjpgneaaGreat

namespace Go.Proofs.YticfnjihjpgneaaGreat
open Go.RowKit Go.Maps
set_option linter.unusedVariables false

def kv (s : Int) (l : List UInt8) : Value := .agg #[.int .i64 s, .string (strB l)]
def klit (s : Int) (l : List UInt8) : Lit := .string (keyBytes [.int .i64 s, .string l])
def okP (s : Int) (l : List UInt8) : Prop := ok64 s ∧ l.length ≤ maxLen

theorem keyLaw : Keyed Tryz.prog 211 :=
  Keyed.of_law (deep_law_laid Tryz.laidOut (m := 3) (by omega) (of_decide_eq_true (by kernel_rfl)) (by kernel_rfl) (by kernel_rfl))
theorem keyT : Tryz.prog.keyType 211 = true := by kernel_rfl
theorem key_lits (s : Int) (l : List UInt8) : Tryz.prog.keyLits (Tryz.prog.types.size + 1) 211 [.int .i64 s, .string (strB l)] = (if (Lit.int .i64 s).wf = true ∧ l.length ≤ maxLen then some [.int .i64 s, .string l] else none) := by
  obtain ⟨n, hn⟩ : ∃ n, Tryz.prog.types.size = n + 1 := ⟨Tryz.prog.types.size - 1, by have : 0 < Tryz.prog.types.size := of_decide_eq_true (by kernel_rfl); omega⟩
  have hc1 : Tryz.prog.cellsOf 211 = 2 := by kernel_rfl
  have hc2 : Tryz.prog.cellsOf 3 = 1 := by kernel_rfl
  have hc3 : Tryz.prog.cellsOf 9 = 1 := by kernel_rfl
  have hss : (strB l).size = l.length := strB_size l
  have hsl : (strB l).data.toList = l := rfl
  rw [hn]
  by_cases h1 : (Lit.int .i64 s).wf = true <;> by_cases h2 : l.length ≤ maxLen <;>
    simp [Program.keyLits, Tryz.underlying211, Tryz.underlying3, Tryz.underlying9, hc1, hc2, hc3, hss, hsl, h1, h2]
theorem keyOf_kv {s : Int} {l : List UInt8} (h : okP s l) : keyOf Tryz.prog 211 (kv s l) = some (klit s l) := by
  have hw : (Lit.int .i64 s).wf = true := by
    have := h.1.1
    have := h.1.2
    simp [Lit.wf, IntKind.min, IntKind.max, IntKind.signed, IntKind.bits]
    omega
  have hf : (kv s l).formed Tryz.prog 211 = true := by
    have hc1 : Tryz.prog.cellsOf 211 = 2 := by kernel_rfl
    simp [Value.formed, kv, Tryz.underlying211, hc1]
  unfold keyOf
  rw [Tryz.underlying211]
  simp only [keyT, hf, Bool.and_self, if_true]
  show (Tryz.prog.keyLits (Tryz.prog.types.size + 1) 211 [.int .i64 s, .string (strB l)]).map _ = _
  rw [key_lits, if_pos ⟨hw, h.2⟩]
  rfl
theorem klit_inj {s t : Int} {l m : List UInt8} (h : okP s l) (h2 : okP t m) (e : klit s l = klit t m) : s = t ∧ l = m := by
  have h3 := keyLaw.inj (keyOf_kv h) (e ▸ keyOf_kv h2)
  simp [kv] at h3
  exact ⟨h3.1, strB_inj.1 h3.2⟩

def Tab (w : World) (b : Nat) (L : List (Int × List UInt8)) : Prop :=
  ∃ D : DataW Unit, w.ownsMap Tryz.prog 211 unitElem b L.length D ∧ size D = L.length ∧ ∀ s l, okP s l → Maps.has D (klit s l) = decide ((s, l) ∈ L)

theorem owns_tight {w : World} {b n : Nat} {D : DataW Unit} (h : w.ownsMap Tryz.prog 211 unitElem b n D) : w.ownsMap Tryz.prog 211 unitElem b (size D) D := by
  obtain ⟨es, clock, h1, h2, h3, rfl⟩ := h
  exact ⟨es, clock, h1, h2, by simp [Maps.size, length_sorted], rfl⟩

theorem Tab.made (w : World) : Tab (w.alloc (.map #[] 0)) w.heap.size [] :=
  ⟨_, World.ownsMap_made w _ _ _, rfl, fun s l _ => by simp [Maps.has]⟩
theorem Tab.kept {w w' : World} {b : Nat} {L : List (Int × List UInt8)} {row : Option Nat} (h : Tab w b L) (hg : w.grownBy w' row) (hne : some b ≠ row) : Tab w' b L := by
  obtain ⟨D, h1, h2, h3⟩ := h
  exact ⟨D, h1.kept hg hne, h2, h3⟩
theorem Tab.below {w w' : World} {b B : Nat} {L : List (Int × List UInt8)} (h : Tab w b L) (hb : Below B w w') (hB : w.heap.size ≤ B) : Tab w' b L :=
  h.kept (row := none) ⟨hb.os, hb.tape, hb.output, hb.size, fun k hk _ => hb.block k (by omega)⟩ (by simp)
theorem Tab.lt {w : World} {b : Nat} {L : List (Int × List UInt8)} (h : Tab w b L) : b < w.heap.size := by
  obtain ⟨D, h1, -⟩ := h
  exact h1.lt
theorem Tab.no_cell {w : World} {b : Nat} {L : List (Int × List UInt8)} (h : Tab w b L) (a : Addr) (u : Value) (hc : w.cell? a = some u) : a.block ≠ b := by
  obtain ⟨D, ⟨es, clock, hb, -⟩, -⟩ := h
  rintro rfl
  simp [World.cell?, hb] at hc

theorem Tab.look {w : World} {b : Nat} {L : List (Int × List UInt8)} (h : Tab w b L) {s : Int} {l : List UInt8} (hp : okP s l) :
    (Instr.lookup 121 (.map (some b)) (.agg #[.int .i64 s, .string ⟨l.toArray⟩]) true).run Tryz.prog w = .ok (.tuple #[.agg #[], .bool (decide ((s, l) ∈ L))]) w := by
  obtain ⟨D, h1, h2, h3⟩ := h
  obtain ⟨v, ps, hrun, hv⟩ := h1.look_ok keyLaw Tryz.underlying121 (z := .agg #[]) (by kernel_rfl) unitElem_mk (keyOf_kv hp)
  obtain ⟨rfl, -⟩ := unitElem_inv hv
  rw [← h3 s l hp]
  exact hrun
theorem Tab.len {w : World} {b : Nat} {L : List (Int × List UInt8)} (h : Tab w b L) (ty : TypeId) : (Builtin.len_ #[121] ty #[.map (some b)]).run Tryz.prog w = .ok (.int .i64 L.length) w := by
  obtain ⟨D, h1, h2, h3⟩ := h
  rw [← h2]
  exact h1.len Tryz.underlying121 ty

def addP (L : List (Int × List UInt8)) (s : Int) (l : List UInt8) : List (Int × List UInt8) := if (s, l) ∈ L then L else L ++ [(s, l)]

theorem Tab.put {w : World} {b : Nat} {L : List (Int × List UInt8)} (h : Tab w b L) (hlen : L.length < maxLen) {s : Int} {l : List UInt8} (hp : okP s l) :
    ∃ w', (Instr.mapUpdate 121 (.map (some b)) (.agg #[.int .i64 s, .string ⟨l.toArray⟩]) (.agg #[])).run Tryz.prog w = .ok () w' ∧ Tab w' b (addP L s l) ∧ w.grownBy w' (some b) ∧ w'.heap.size = w.heap.size := by
  obtain ⟨D, h1, h2, h3⟩ := h
  obtain ⟨w', hrun, h4, h5⟩ := h1.store keyLaw Tryz.underlying121 hlen (keyOf_kv hp) unitElem_mk
  have hk := keyLaw.key (keyOf_kv hp)
  have hsz : size (D.put (klit s l) (.agg [])) = (addP L s l).length := by
    rw [size_put (h1.tidy keyLaw), h3 s l hp, h2]
    unfold addP
    by_cases hm : (s, l) ∈ L
    · rw [if_pos hm, if_pos (by simpa using hm)]
    · rw [if_neg hm, if_neg (by simpa using hm), List.length_append, List.length_singleton]
  refine ⟨w', hrun, ⟨_, hsz ▸ owns_tight h4, hsz, fun t m hq => ?_⟩, h5.grown, ?_⟩
  · by_cases e : klit t m = klit s l
    · obtain ⟨rfl, rfl⟩ := klit_inj hq hp e
      rw [has_put_same h1.isMap hk]
      unfold addP
      by_cases hm : (t, m) ∈ L
      · rw [if_pos hm]; simpa using hm
      · rw [if_neg hm]; simp
    · rw [has_put_other e, h3 t m hq]
      have hne : (t, m) ≠ (s, l) := by
        intro e2
        injection e2 with e3 e4
        subst e3 e4
        exact e rfl
      unfold addP
      by_cases hm : (s, l) ∈ L
      · rw [if_pos hm]
      · rw [if_neg hm]
        simp [hne]
  · obtain ⟨es, clock, es', clock', _, rfl⟩ := h5
    simp [Go.ChangeMaps.setBlock]
end Go.Proofs.YticfnjihjpgneaaGreat

namespace Go.Proofs.YticfnjihjpgneaaGreat
open Go.RowKit
set_option linter.unusedVariables false
set_option linter.unusedSimpArgs false
set_option maxRecDepth 20000

theorem results_cell2 {P : Program} {fn : Func} {p u : Tmp} {ty : TypeId} (h : fn.results = #[.cell p ty, .tmp u]) (tmps : Array Value) (w : World) (g : Nat) (t : TypeId) (cs : Array Value) (fr : Nat × Nat) (d : TypeDesc)
    (hp : tmps.getD p undef = .pointer (some ⟨g, 0, none⟩)) (hg : w.heap[g]? = some (.cells cs t fr))
    (hu : P.underlying ty = some d) (hd : (match d with | .struct _ | .array _ _ => true | _ => false) = true) (hi : (P.info? ty).map (·.size) = some cs.size) :
    (results fn tmps).run P w = .ok (.tuple #[.agg cs, tmps.getD u undef]) w := by
  rw [results_cell_tmp h, hp]
  simp [asAddr, run_loadVar_row w g t ty cs fr d hg hu hd hi, Result.andThen]
theorem envSize : (Tryz.prog.info? 35).map (·.size) = some 2 := by kernel_rfl

def Au (w : World) (g bm : Nat) (f c : Int) (L : List (Int × List UInt8)) : Prop := AuH w g bm f c ∧ Tab w bm L

section
variable {w w' : World} {g bm : Nat} {f c : Int} {L : List (Int × List UInt8)}
theorem AuH.kept {row : Option Nat} (h : AuH w g bm f c) (hg : w.grownBy w' row) (hne : some g ≠ row) : AuH w' g bm f c :=
  ⟨(hg.block g (Array.getElem?_eq_some_iff.1 h.1).1 hne).trans h.1, h.2⟩
theorem AuH.lt (h : AuH w g bm f c) : g < w.heap.size := (Array.getElem?_eq_some_iff.1 h.1).1
theorem AuH.below {B : Nat} (h : AuH w g bm f c) (hb : Below B w w') (hB : w.heap.size ≤ B) : AuH w' g bm f c :=
  ⟨(hb.block g (Nat.lt_of_lt_of_le h.lt hB)).trans h.1, h.2⟩
theorem Au.below {B : Nat} (h : Au w g bm f c L) (hb : Below B w w') (hB : w.heap.size ≤ B) : Au w' g bm f c L := ⟨h.1.below hb hB, h.2.below hb hB⟩
theorem Au.ne (h : Au w g bm f c L) : g ≠ bm := h.2.no_cell ⟨g, 0, none⟩ _ h.1.open.1
theorem Au.map (h : Au w g bm f c L) : ∃ es clock, w.heap[bm]? = some (.map es clock) := by
  obtain ⟨-, D, ⟨es, clock, hb, -⟩, -⟩ := h
  exact ⟨es, clock, hb⟩
end

def Ev (w : World) (h : Nat) (x y : Value) : Prop := w.heap[h]? = some (.cells #[x, y] 35 (0, 0))
theorem Ev.open {w : World} {h : Nat} {x y : Value} (he : Ev w h x y) : w.cell? ⟨h, 0, none⟩ = some x ∧ w.cell? ⟨h, 1, none⟩ = some y ∧ w.frozen? ⟨h, 0, none⟩ = false ∧ w.frozen? ⟨h, 1, none⟩ = false ∧ h < w.heap.size :=
  ⟨(cell_of_row w h 0 _ _ (0, 0) he).trans rfl, (cell_of_row w h 1 _ _ (0, 0) he).trans rfl, by have he' : w.heap[h]? = _ := he; simp [World.frozen?, he'], by have he' : w.heap[h]? = _ := he; simp [World.frozen?, he'], (Array.getElem?_eq_some_iff.1 he).1⟩
theorem Ev.set2 {w : World} {h : Nat} {x y : Value} (he : Ev w h x y) (x' y' : Value) : Ev ((w.setCell ⟨h, 0, none⟩ x').setCell ⟨h, 1, none⟩ y') h x' y' := by
  have he' : w.heap[h]? = _ := he
  simp [Ev, World.setCell, Array.getElem?_modify, he']
theorem Ev.below {w w' : World} {h : Nat} {x y : Value} (he : Ev w h x y) (hb : Below w.heap.size w w') : Ev w' h x y := (hb.block h he.open.2.2.2.2).trans he
theorem Ev.kept {w w' : World} {h : Nat} {x y : Value} {row : Option Nat} (he : Ev w h x y) (hg : w.grownBy w' row) (hne : some h ≠ row) : Ev w' h x y := (hg.block h he.open.2.2.2.2 hne).trans he
theorem grown_new {w w4 w' : World} {row : Option Nat} {h : Nat} (hg : w.grownBy w4 row) (h4 : w4.grownBy w' (some h)) (hh : w.heap.size ≤ h) : w.grownBy w' row :=
  ⟨h4.os.trans hg.os, h4.tape.trans hg.tape, h4.output.trans hg.output, Nat.le_trans hg.size h4.size, fun k hk hne => (h4.block k (Nat.lt_of_lt_of_le hk hg.size) (by intro e; injection e with e; omega)).trans (hg.block k hk hne)⟩
theorem grown_below {w w4 w' : World} {row : Option Nat} (hg : w.grownBy w4 row) (hb : Below w4.heap.size w4 w') : w.grownBy w' row :=
  ⟨hb.os.trans hg.os, hb.tape.trans hg.tape, hb.output.trans hg.output, Nat.le_trans hg.size hb.size, fun k hk hne => (hb.block k (Nat.lt_of_lt_of_le hk hg.size)).trans (hg.block k hk hne)⟩
theorem below_then {w w4 w' : World} {row : Option Nat} (hb : Below w.heap.size w w4) (hg : w4.grownBy w' row) : w.grownBy w' row :=
  ⟨hg.os.trans hb.os, hg.tape.trans hb.tape, hg.output.trans hb.output, Nat.le_trans hb.size hg.size, fun k hk hne => (hg.block k (Nat.lt_of_lt_of_le hk hb.size) hne).trans (hb.block k hk)⟩
theorem Bs.besideMap {w w' : World} {v : Value} {l : List UInt8} {b : Nat} {es : Array MapEntry} {clock : Nat} (h : Bs w v l) (hm : w.heap[b]? = some (.map es clock)) (hg : w.grownBy w' (some b)) : Bs w' v l :=
  h.grown hg fun hne k hk e => by
    injection e with e
    subst e
    obtain ⟨A, c, rfl, -, -, -, hx⟩ := h.open
    obtain ⟨ad, rfl, -, hc⟩ := hx hne
    simp [Value.ownBlock] at hk
    have h0 := hc 0 (List.length_pos_iff.2 hne)
    rw [Addr.add_zero'] at h0
    simp [World.cell?, hk, hm] at h0

def signE (f c s : Int) (l : List UInt8) : Int := if knB f c s = true then (if 16777216 < l.length then 11 else 0) else 30
def signS (f c s : Int) (l : List UInt8) : Int := if signE f c s l = 0 then s else 0
def signL (f c s : Int) (l : List UInt8) : List UInt8 := if signE f c s l = 0 then l else []
def signT (f c s : Int) (l : List UInt8) (L : List (Int × List UInt8)) : List (Int × List UInt8) := if signE f c s l = 0 then addP L s l else L
def checkE (f c s : Int) (l : List UInt8) (L : List (Int × List UInt8)) : Int := if knB f c s = true then (if (s, l) ∈ L then 0 else 31) else 30

theorem signE_no {f c s : Int} {l : List UInt8} (h : knB f c s = false) : signE f c s l = 30 := by unfold signE; rw [h]; rfl
theorem signE_long {f c s : Int} {l : List UInt8} (h : knB f c s = true) (h2 : 16777216 < l.length) : signE f c s l = 11 := by unfold signE; rw [if_pos h, if_pos h2]
theorem signE_ok {f c s : Int} {l : List UInt8} (h : knB f c s = true) (h2 : ¬ 16777216 < l.length) : signE f c s l = 0 := by unfold signE; rw [if_pos h, if_neg h2]

def GivesO (w : World) (l : List UInt8) (e : Ending) (w' : World) : Prop := ∃ v', e = .returned v' ∧ w'.ownsRow w.heap.size 5 1 v' l.length (l.map bc) ∧ Below w.heap.size w w'
set_option maxHeartbeats 400000 in
theorem Clone_own (v : Value) (l : List UInt8) (w : World) (hv : Bs w v l) (hl : l.length ≤ 140737488355320) : Calls Tryz.prog 130 #[v] w (GivesO w l) := by
  obtain ⟨i0, hi, hz0, hz1, hz2⟩ := info_parts u8info
  obtain ⟨A, c, rfl, hc, hmx, hn, -⟩ := hv.open
  rcases A with _ | ad
  · have hc0 := hn rfl
    subst hc0
    have hl0 : l = [] := List.eq_nil_of_length_eq_zero (by omega)
    subst hl0
    clear hn hv
    have he := fun (w : World) => Lib.run_eql_slice_nil (P := Tryz.prog) w 33 5 none 0 0 0 0 Tryz.underlying33
    simp only [List.length_nil]
    go_enter Tryz.func130, Tryz.ntmps130
    go_wp2
    go_ret
    exact ⟨_, rfl, World.ownsRow_nil _ _ _ _, Below.refl _ _⟩
  · clear hn
    have hv' : Rd w (.slice (some ad) l.length c) (l.map bc) := hv
    have HV := Lib.hid hv'
    clear hv hv'
    have he := fun (w : World) => Lib.run_eql_slice_nil (P := Tryz.prog) w 33 5 (some ad) l.length c 0 0 Tryz.underlying33
    go_enter Tryz.func130, Tryz.ntmps130
    go_wp2_with (at_builtin; refine wpList_append_rd _ rfl _ _ 33 rfl w.heap.size 5 i0 (.int .u8 0) 1 Tryz.underlying33 hi hz0 hz1 hz2 rfl _ _ _ rfl (own_empty _ _ _ _ (by simp) (by simp)) _ _ rfl (Rd.below HV.out ((Below.refl w.heap.size w).alloc (Nat.le_refl _) _) (Nat.le_refl _)) (bc_one l) (by simp; unfold maxLen; omega) (by simp; omega) (by simp) ?_; intro v2 w2 hown2 hg2)
    go_ret
    refine ⟨_, rfl, by simpa using hown2, ?_⟩
    exact ((Below.refl w.heap.size w).alloc (Nat.le_refl _) _).grown hg2 (by simp) (by intro k h; injection h with h; simp only at h; omega)

def SignsO (g bm : Nat) (f c s : Int) (l : List UInt8) (L : List (Int × List UInt8)) (w : World) (e : Ending) (w' : World) : Prop :=
  ∃ v', e = .returned (.tuple #[.agg #[.int .i64 (signS f c s l), v'], .int .i64 (signE f c s l)]) ∧ w'.ownsRow w.heap.size 5 1 v' (signL f c s l).length ((signL f c s l).map bc) ∧ Au w' g bm f c (signT f c s l L) ∧ w.grownBy w' (some bm)
theorem own_keep0 {w w' : World} {B e sz n : Nat} {v : Value} {xs : List Value} (h : w.ownsRow B e sz v n xs) (hk : ∀ k, v.ownBlock = some k → w'.heap[k]? = w.heap[k]?) : w'.ownsRow B e sz v n xs := by
  obtain ⟨h1, h2⟩ := h
  refine ⟨h1, ?_⟩
  rcases h2 with h2 | ⟨g, cap, cur, rfl, hb, hg, hr⟩
  · exact .inl h2
  · exact .inr ⟨g, cap, cur, rfl, hb, (hk g rfl).trans hg, hr⟩
theorem own_base {w : World} {B B' n : Nat} {e sz : Nat} {v : Value} {xs : List Value} (h : w.ownsRow B' e sz v n xs) (hB : B ≤ B') : w.ownsRow B e sz v n xs := by
  obtain ⟨h1, h2⟩ := h
  refine ⟨h1, ?_⟩
  rcases h2 with h2 | ⟨g, cap, cur, h3, h4, h5⟩
  · exact .inl h2
  · exact .inr ⟨g, cap, cur, h3, Nat.le_trans hB h4, h5⟩
def Signs (g bm : Nat) (f c s : Int) (l : List UInt8) (L : List (Int × List UInt8)) (w : World) (e : Ending) (w' : World) : Prop :=
  ∃ v', e = .returned (.tuple #[.agg #[.int .i64 (signS f c s l), v'], .int .i64 (signE f c s l)]) ∧ Bs w' v' (signL f c s l) ∧ New w.heap.size v' ∧ Au w' g bm f c (signT f c s l L) ∧ w.grownBy w' (some bm)

set_option maxHeartbeats 1000000 in
theorem Sign_own (g bm : Nat) (f c s : Int) (v : Value) (l : List UInt8) (L : List (Int × List UInt8)) (w : World) (h : Au w g bm f c L) (hs : ok64 s) (hv : Bs w v l) (hl : l.length ≤ 1000000000) (hL : L.length ≤ 1000000000) :
    Calls Tryz.prog 111 #[.pointer (some ⟨g, 0, none⟩), .int .i64 s, v] w (SignsO g bm f c s l L w) := by
  rcases hk : knB f c s with _ | _
  · have he := signE_no (l := l) hk
    unfold SignsO signS signL signT
    rw [he]
    simp only [show ((30 : Int) = 0) = False by simp, if_false]
    have HB := Lib.hid hv
    have HK := Lib.hid hk
    clear hk he hv
    go_enter Tryz.func111, Tryz.ntmps111
    go_wp2_with (first
      | (go_at_call 152; refine (Known_any (h.1.below ((Below.refl _ _).alloc (Nat.le_refl _) _) (Nat.le_refl _)) s hs).mono ?_; rw [HK.out]; rintro e w' ⟨rfl, rfl⟩))
    (try simp only [Exit.inBlock, Exit.then])
    refine bodyPost_ret (results_cell2 rfl _ _ w.heap.size 35 _ (0, 0) _ rfl (heap_alloc_new _ _) Tryz.underlying35 rfl envSize) rfl ?_
    exact ⟨_, rfl, World.ownsRow_nil _ _ _ _, h.below ((Below.refl _ _).alloc (Nat.le_refl _) _) (Nat.le_refl _), (World.grownBy_alloc _ _ _)⟩
  · by_cases hlong : 16777216 < l.length
    · have he := signE_long (l := l) hk hlong
      unfold SignsO signS signL signT
      rw [he]
      simp only [show ((11 : Int) = 0) = False by simp, if_false]
      obtain ⟨A, cc, rfl, -⟩ := hv.open
      have HK := Lib.hid hk
      have hlI : (16777216 : Int) < (l.length : Int) := by omega
      clear hk he hv
      go_enter Tryz.func111, Tryz.ntmps111
      go_wp2_with (first
        | (go_at_call 152; refine (Known_any (h.1.below ((Below.refl _ _).alloc (Nat.le_refl _) _) (Nat.le_refl _)) s hs).mono ?_; rw [HK.out]; rintro e w' ⟨rfl, rfl⟩))
      (try simp only [Exit.inBlock, Exit.then])
      refine bodyPost_ret (results_cell2 rfl _ _ w.heap.size 35 _ (0, 0) _ rfl (heap_alloc_new _ _) Tryz.underlying35 rfl envSize) rfl ?_
      exact ⟨_, rfl, World.ownsRow_nil _ _ _ _, h.below ((Below.refl _ _).alloc (Nat.le_refl _) _) (Nat.le_refl _), (World.grownBy_alloc _ _ _)⟩
    · have he := signE_ok (l := l) hk hlong
      unfold SignsO signS signL signT
      rw [he]
      simp only [if_true]
      have HB := Lib.hid hv
      have HK := Lib.hid hk
      have hlI : (l.length : Int) ≤ 16777216 := by omega
      have hp : okP s l := ⟨hs, by unfold maxLen; omega⟩
      obtain ⟨A, cc, rfl, -⟩ := hv.open
      clear hk he hv
      go_enter Tryz.func111, Tryz.ntmps111
      go_wp2_with (first
        | (go_at_call 152; refine (Known_any (h.1.below ((Below.refl _ _).alloc (Nat.le_refl _) _) (Nat.le_refl _)) s hs).mono ?_; rw [HK.out]; rintro e w' ⟨rfl, rfl⟩))
      have hb0 : Below w.heap.size w (w.alloc (.cells #[.int .i64 0, .slice none 0 0] 35)) := (Below.refl _ _).alloc (Nat.le_refl _) _
      have hA := h.below hb0.drew (Nat.le_refl _)
      have hs1 := run_str (w := (w.alloc (.cells #[.int .i64 0, .slice none 0 0] 35)).drew) (HB.out.below hb0.drew (Nat.le_refl _))
      obtain ⟨c0, c1, c2, c3⟩ := hA.1.open
      obtain ⟨w3, hput, hT3, hg3, hz3⟩ := hA.2.put (by unfold maxLen; omega) hp
      generalize hwv : (w.alloc (.cells #[.int .i64 0, .slice none 0 0] 35)).drew = wv at *
      go_region
      have hA3 : Au w3 g bm f c (addP L s l) := ⟨hA.1.kept hg3 (by simpa using hA.ne), hT3⟩
      have hbelow : Below w.heap.size w wv := by rw [← hwv]; exact hb0.drew
      have hev : Ev wv w.heap.size (.int .i64 0) (.slice none 0 0) := by rw [← hwv]; exact heap_alloc_new _ _
      have hne : w.heap.size ≠ bm := by have := h.2.lt; omega
      have hev3 := hev.kept hg3 (by simpa using hne)
      obtain ⟨es, clock, hmap⟩ := hA.map
      have hB3 : Bs w3 (.slice A l.length cc) l := (HB.out.below hbelow (Nat.le_refl _)).besideMap hmap hg3
      have hz0 : w.heap.size < w3.heap.size := hev3.open.2.2.2.2
      have HG3 := Lib.hid hg3
      have HBE := Lib.hid hbelow
      clear hput c0 c1 c2 c3 hs1 hb0 hwv hmap hev hT3 hg3 hbelow
      go_wp2_with (first
        | (go_at_call 130; refine (Clone_own _ l _ hB3 (by omega)).mono ?_; rintro e w4 ⟨v4, rfl, ho4, hb4⟩; have h4 : Bs w4 v4 l := Rd.of_own ho4; have hn4 : New w3.heap.size v4 := New.of_own ho4; obtain ⟨d0, d1, z0, z1, hlt4⟩ := (hev3.below hb4).open; obtain ⟨A4, c4, rfl, -⟩ := h4.open))
      have hon : w4.grownBy ((w4.setCell ⟨w.heap.size, 0, none⟩ (.int .i64 s)).setCell ⟨w.heap.size, 1, none⟩ (.slice A4 l.length c4)) (some w.heap.size) := (Only.set (Only.set (Only.refl _ _) 0 _) 1 _)
      (try simp only [Exit.inBlock, Exit.then])
      refine bodyPost_ret (results_cell2 rfl _ _ w.heap.size 35 _ (0, 0) _ rfl ((hev3.below hb4).set2 _ _) Tryz.underlying35 rfl envSize) rfl ?_
      refine ⟨_, rfl, own_base (own_keep0 ho4 fun k hk => ?_) (Nat.le_of_lt hz0), ⟨(hA3.1.below hb4 (Nat.le_refl _)).kept hon ?_, (hA3.2.below hb4 (Nat.le_refl _)).kept hon (by simpa using hne.symm)⟩, grown_new (grown_below (below_then HBE.out HG3.out) hb4) hon (Nat.le_refl _)⟩
      · exact hon.block k (ho4.lt k hk).2 (by intro e; injection e with e; have := hn4 k hk; omega)
      · have := h.1.lt
        intro e
        injection e with e
        omega

theorem Sign_any (g bm : Nat) (f c s : Int) (v : Value) (l : List UInt8) (L : List (Int × List UInt8)) (w : World) (h : Au w g bm f c L) (hs : ok64 s) (hv : Bs w v l) (hl : l.length ≤ 1000000000) (hL : L.length ≤ 1000000000) :
    Calls Tryz.prog 111 #[.pointer (some ⟨g, 0, none⟩), .int .i64 s, v] w (Signs g bm f c s l L w) :=
  (Sign_own g bm f c s v l L w h hs hv hl hL).mono fun _ _ ⟨v', h1, h2, h3, h4⟩ => ⟨v', h1, Rd.of_own h2, New.of_own h2, h3, h4⟩

theorem checkE_no {f c s : Int} {l : List UInt8} {L : List (Int × List UInt8)} (h : knB f c s = false) : checkE f c s l L = 30 := by unfold checkE; rw [h]; rfl
def Makes (F C : Int) (w : World) (e : Ending) (w' : World) : Prop :=
  ∃ g bm, e = .returned (.pointer (some ⟨g, 0, none⟩)) ∧ w.heap.size ≤ g ∧ w.heap.size ≤ bm ∧ Au w' g bm (max 0 (min F 2)) (max 0 (min C 8)) [] ∧ Below w.heap.size w w'
theorem new3_end (F C f c n : Int) (w : World) (hf : max 0 (min F 2) = f) (hc : max 0 (min C 8) = c) (hn : n = 3 * f + 1) :
    Makes F C w (Ending.returned (Value.pointer (some ⟨w.heap.size + 1, 0, none⟩))) ((w.alloc (.map #[] 0)).alloc (.cells #[.int .i64 n, .int .i64 f, .int .i64 c, .map (some w.heap.size)] 123)) := by
  unfold Makes
  rw [hf, hc, hn]
  have hb : Below w.heap.size w (w.alloc (.map #[] 0)) := (Below.refl _ _).alloc (Nat.le_refl _) _
  have hn1 : (w.alloc (.map #[] 0)).heap.size = w.heap.size + 1 := by simp
  refine ⟨w.heap.size + 1, w.heap.size, rfl, by omega, by omega, ⟨⟨?_, by omega, by omega, by omega, by omega⟩, (Tab.made w).below ((Below.refl _ _).alloc (Nat.le_refl _) _) (Nat.le_refl _)⟩, hb.alloc hb.size _⟩
  rw [← hn1]
  exact heap_alloc_new _ _

theorem New3_any (F C : Int) (w : World) : Calls Tryz.prog 51 #[.int .i64 F, .int .i64 C] w (Makes F C w) := by
  have hmm := @run_makeMap Tryz.prog
  go_enter Tryz.func51, Tryz.ntmps51
  go_wp2
  all_goals
    go_ret
    refine new3_end F C _ _ _ w ?_ ?_ ?_ <;> omega

set_option maxHeartbeats 1000000 in
theorem check_known (g bm : Nat) (f c s : Int) (v : Value) (l : List UInt8) (L : List (Int × List UInt8)) (w : World) (h : Au w g bm f c L) (hs : ok64 s) (hv : Bs w v l) (hl : l.length ≤ 1000000000) (hk : knB f c s = true)
    (yes : Bool) (hy : decide ((s, l) ∈ L) = yes) :
    Calls Tryz.prog 134 #[.pointer (some ⟨g, 0, none⟩), .agg #[.int .i64 s, v]] w fun e w' => e = .returned (.int .i64 (if yes = true then 0 else 31)) ∧ Below w.heap.size w w' := by
  have hp : okP s l := ⟨hs, by unfold maxLen; omega⟩
  obtain ⟨A, cc, rfl, -⟩ := hv.open
  have HB := Lib.hid hv
  have HK := Lib.hid hk
  have H := Lib.hid h
  obtain ⟨w1, hw1⟩ : ∃ w1, w1 = w.alloc (.cells #[.int .i64 s, .slice A l.length cc] 35) := ⟨_, rfl⟩
  have hb0 : Below w.heap.size w w1 := by rw [hw1]; exact (Below.refl _ _).alloc (Nat.le_refl _) _
  have hev : Ev w1 w.heap.size (.int .i64 s) (.slice A l.length cc) := by rw [hw1]; exact heap_alloc_new _ _
  have hkn : Calls Tryz.prog 152 #[.pointer (some ⟨g, 0, none⟩), .int .i64 s] w1 (Says (.bool true) w1) := by
    have := Known_any (h.1.below hb0 (Nat.le_refl _)) s hs
    rwa [hk] at this
  have HKN := Lib.hid hkn
  have hall : ∀ W, Below w1.heap.size w1 W → Below w1.heap.size w1 W ∧ W.cell? ⟨g, 3, none⟩ = some (.map (some bm)) ∧ W.cell? ⟨w.heap.size, 0, none⟩ = some (.int .i64 s) ∧ W.cell? ⟨w.heap.size, 1, none⟩ = some (.slice A l.length cc) ∧
      (convert 33 9 (.slice A l.length cc)).run Tryz.prog W = .ok (.string ⟨l.toArray⟩) W ∧
      (Instr.lookup 121 (.map (some bm)) (.agg #[.int .i64 s, .string ⟨l.toArray⟩]) true).run Tryz.prog W = .ok (.tuple #[.agg #[], .bool yes]) W := fun W hbW =>
    ⟨hbW, ((H.out.1.below hb0 (Nat.le_refl _)).below hbW (Nat.le_refl _)).open.2.2.2, (hev.below hbW).open.1, (hev.below hbW).open.2.1, run_str ((HB.out.below hb0 (Nat.le_refl _)).below hbW (Nat.le_refl _)), hy ▸ ((H.out.2.below hb0 (Nat.le_refl _)).below hbW (Nat.le_refl _)).look hp⟩
  have HW1 := Lib.hid hw1
  clear hk hv hy hkn h hw1
  cases yes
  · go_enter Tryz.func134, Tryz.ntmps134
    go_wp2_with (first
      | (go_at_call 152; rw [← HW1.out]; refine HKN.out.mono ?_; rintro e w' ⟨rfl, hww⟩; rw [hww]; clear hww w'))
    have hS0 := hall w1.drew (Below.refl _ _).drew
    have hkeep : ∀ (W : World) (o : Obj), Below w1.heap.size w1 W ∧ W.cell? ⟨g, 3, none⟩ = some (.map (some bm)) ∧ W.cell? ⟨w.heap.size, 0, none⟩ = some (.int .i64 s) ∧ W.cell? ⟨w.heap.size, 1, none⟩ = some (.slice A l.length cc) ∧
        (convert 33 9 (.slice A l.length cc)).run Tryz.prog W = .ok (.string ⟨l.toArray⟩) W ∧
        (Instr.lookup 121 (.map (some bm)) (.agg #[.int .i64 s, .string ⟨l.toArray⟩]) true).run Tryz.prog W = .ok (.tuple #[.agg #[], .bool false]) W → _ := fun W o h => hall (W.alloc o) (h.1.alloc h.1.size o)
    go_region_held3 (fun W => Below w1.heap.size w1 W ∧ W.cell? ⟨g, 3, none⟩ = some (.map (some bm)) ∧ W.cell? ⟨w.heap.size, 0, none⟩ = some (.int .i64 s) ∧ W.cell? ⟨w.heap.size, 1, none⟩ = some (.slice A l.length cc) ∧
        (convert 33 9 (.slice A l.length cc)).run Tryz.prog W = .ok (.string ⟨l.toArray⟩) W ∧
        (Instr.lookup 121 (.map (some bm)) (.agg #[.int .i64 s, .string ⟨l.toArray⟩]) true).run Tryz.prog W = .ok (.tuple #[.agg #[], .bool false]) W) (first | exact hS0 | exact hkeep _ _ (by assumption) | exact hall _ (((Below.refl _ _).alloc (Nat.le_refl _) _).drew)) (first | fail)
    all_goals go_wp2
    all_goals (go_ret; exact ⟨rfl, hb0.trans ((((Below.refl _ _).alloc (Nat.le_refl _) _).drew).mono hb0.size)⟩)
  · go_enter Tryz.func134, Tryz.ntmps134
    go_wp2_with (first
      | (go_at_call 152; rw [← HW1.out]; refine HKN.out.mono ?_; rintro e w' ⟨rfl, hww⟩; rw [hww]; clear hww w'))
    have hS0 := hall w1.drew (Below.refl _ _).drew
    have hkeep : ∀ (W : World) (o : Obj), Below w1.heap.size w1 W ∧ W.cell? ⟨g, 3, none⟩ = some (.map (some bm)) ∧ W.cell? ⟨w.heap.size, 0, none⟩ = some (.int .i64 s) ∧ W.cell? ⟨w.heap.size, 1, none⟩ = some (.slice A l.length cc) ∧
        (convert 33 9 (.slice A l.length cc)).run Tryz.prog W = .ok (.string ⟨l.toArray⟩) W ∧
        (Instr.lookup 121 (.map (some bm)) (.agg #[.int .i64 s, .string ⟨l.toArray⟩]) true).run Tryz.prog W = .ok (.tuple #[.agg #[], .bool true]) W → _ := fun W o h => hall (W.alloc o) (h.1.alloc h.1.size o)
    go_region_held3 (fun W => Below w1.heap.size w1 W ∧ W.cell? ⟨g, 3, none⟩ = some (.map (some bm)) ∧ W.cell? ⟨w.heap.size, 0, none⟩ = some (.int .i64 s) ∧ W.cell? ⟨w.heap.size, 1, none⟩ = some (.slice A l.length cc) ∧
        (convert 33 9 (.slice A l.length cc)).run Tryz.prog W = .ok (.string ⟨l.toArray⟩) W ∧
        (Instr.lookup 121 (.map (some bm)) (.agg #[.int .i64 s, .string ⟨l.toArray⟩]) true).run Tryz.prog W = .ok (.tuple #[.agg #[], .bool true]) W) (first | exact hS0 | exact hkeep _ _ (by assumption) | exact hall _ (((Below.refl _ _).alloc (Nat.le_refl _) _).drew)) (first | fail)
    all_goals go_wp2
    all_goals (go_ret; exact ⟨rfl, hb0.trans ((((Below.refl _ _).alloc (Nat.le_refl _) _).drew).mono hb0.size)⟩)

theorem Check_any (g bm : Nat) (f c s : Int) (v : Value) (l : List UInt8) (L : List (Int × List UInt8)) (w : World) (h : Au w g bm f c L) (hs : ok64 s) (hv : Bs w v l) (hl : l.length ≤ 1000000000) :
    Calls Tryz.prog 134 #[.pointer (some ⟨g, 0, none⟩), .agg #[.int .i64 s, v]] w fun e w' => e = .returned (.int .i64 (checkE f c s l L)) ∧ Below w.heap.size w w' := by
  rcases hk : knB f c s with _ | _
  · obtain ⟨A, cc, rfl, -⟩ := hv.open
    rw [checkE_no hk]
    have HB := Lib.hid hv
    have HK := Lib.hid hk
    clear hk hv
    go_enter Tryz.func134, Tryz.ntmps134
    go_wp2_with (first
      | (go_at_call 152; refine (Known_any (h.1.below ((Below.refl _ _).alloc (Nat.le_refl _) _) (Nat.le_refl _)) s hs).mono ?_; rw [HK.out]; rintro e w' ⟨rfl, rfl⟩))
    go_ret
    exact ⟨rfl, (Below.refl _ _).alloc (Nat.le_refl _) _⟩
  · have hce : checkE f c s l L = if decide ((s, l) ∈ L) = true then 0 else 31 := by unfold checkE; rw [if_pos hk]; simp
    rw [hce]
    exact check_known g bm f c s v l L w h hs hv hl hk _ rfl

theorem envinfo : (Tryz.prog.info? 35).map (fun i => (i.zero, i.size, i.bytes)) = some (some (.agg #[.int .i64 0, .slice none 0 0]), 2, 32) := by kernel_rfl

def flatE (xs : List (Int × Value)) : List Value := xs.flatMap fun p => [.int .i64 p.1, p.2]
theorem flatE_cons (p : Int × Value) (xs : List (Int × Value)) : flatE (p :: xs) = .int .i64 p.1 :: p.2 :: flatE xs := by simp [flatE]
theorem flatE_snoc (xs : List (Int × Value)) (p : Int × Value) : flatE (xs ++ [p]) = flatE xs ++ [.int .i64 p.1, p.2] := by simp [flatE]
theorem flatE_length (xs : List (Int × Value)) : (flatE xs).length = xs.length * 2 := by
  induction xs with
  | nil => rfl
  | cons p xs ih => rw [flatE_cons, List.length_cons, List.length_cons, List.length_cons, ih]; omega
theorem flatE_get (xs : List (Int × Value)) : ∀ (k : Nat) (hk : k < xs.length), (flatE xs)[k * 2]? = some (.int .i64 xs[k].1) ∧ (flatE xs)[k * 2 + 1]? = some xs[k].2 := by
  induction xs with
  | nil => intro k hk; simp at hk
  | cons p xs ih =>
    intro k hk
    rw [flatE_cons]
    match k with
    | 0 => simp
    | k + 1 =>
      have := ih k (by simpa using hk)
      rw [show (k + 1) * 2 = k * 2 + 1 + 1 by omega]
      simpa using this

def Es (w : World) (v : Value) (xs : List (Int × Value)) : Prop :=
  ∃ A c, v = .slice A xs.length c ∧ xs.length ≤ c ∧ c ≤ maxLen ∧ (A = none → c = 0) ∧ (xs ≠ [] → ∃ ad, A = some ad ∧ ad.block < w.heap.size ∧ ∀ k (hk : k < xs.length), w.cell? (ad.add (k * 2)) = some (.int .i64 xs[k].1) ∧ w.cell? ⟨(ad.add (k * 2)).block, (ad.add (k * 2)).off + 1, none⟩ = some xs[k].2)

theorem Es.of_own {w : World} {base : Nat} {v : Value} {n : Nat} {xs : List (Int × Value)} (h : w.ownsRow base 35 2 v n (flatE xs)) : Es w v xs := by
  have hl := h.1
  rw [flatE_length] at hl
  have hn : n = xs.length := by omega
  subst hn
  rcases h.2 with ⟨rfl, h0⟩ | ⟨g, cap, cur, rfl, _, hg, hc, hm, _⟩
  · have : xs = [] := List.eq_nil_of_length_eq_zero h0
    subst this
    exact ⟨none, 0, rfl, Nat.le_refl _, Nat.zero_le _, fun _ => rfl, fun h => absurd rfl h⟩
  · refine ⟨_, cap, rfl, hc, hm, (by intro h0; cases h0), fun _ => ⟨_, rfl, (Array.getElem?_eq_some_iff.1 hg).1, fun k hk => ?_⟩⟩
    obtain ⟨h1, h2⟩ := flatE_get xs k hk
    refine ⟨h.cells rfl _ _ h1, ?_⟩
    have h3 := h.cells rfl _ _ h2
    rwa [Addr.add_lit] at h3 ⊢

theorem own_keep {w w' : World} {B e sz n : Nat} {v : Value} {xs : List Value} (h : w.ownsRow B e sz v n xs) (hk : ∀ k, v.ownBlock = some k → w'.heap[k]? = w.heap[k]?) : w'.ownsRow B e sz v n xs := by
  obtain ⟨h1, h2⟩ := h
  refine ⟨h1, ?_⟩
  rcases h2 with h2 | ⟨g, cap, cur, rfl, hb, hg, hr⟩
  · exact .inl h2
  · exact .inr ⟨g, cap, cur, rfl, hb, (hk g rfl).trans hg, hr⟩
theorem Bs.keep {w w' : World} {v : Value} {l : List UInt8} (h : Bs w v l) (hs : w.heap.size ≤ w'.heap.size) (hk : l ≠ [] → ∀ k, v.ownBlock = some k → w'.heap[k]? = w.heap[k]?) : Bs w' v l := by
  obtain ⟨A, c, hv, hc, hm, hn, hx⟩ := h
  refine ⟨A, c, hv, hc, hm, hn, fun he => ?_⟩
  obtain ⟨ad, ha, hl, hr⟩ := hx he
  subst ha hv
  have hn' := hk (by rintro rfl; simp at he) ad.block rfl
  exact ⟨ad, rfl, Nat.lt_of_lt_of_le hl hs, fun j u hj => (World.cell?_of_block (by rw [block_add]; exact hn')).trans (hr j u hj)⟩
theorem Ty.keep {w w' : World} {v : Value} {l : List UInt8} (h : Ty w v l) (hk : l ≠ [] → ∀ k, v.ownBlock = some k → w'.heap[k]? = w.heap[k]?) : Ty w' v l := by
  intro hne k hk'
  obtain ⟨cs, fr, hg⟩ := h hne k hk'
  exact ⟨cs, fr, (hk hne k hk').trans hg⟩

abbrev Tri := Int × List UInt8 × Value
def flatT (E : List Tri) : List Value := flatE (E.map fun p => (p.1, p.2.2))
def pairsT (E : List Tri) : List (Int × List UInt8) := E.map fun p => (p.1, p.2.1)
theorem flatT_snoc (E : List Tri) (p : Tri) : flatT (E ++ [p]) = flatT E ++ [.int .i64 p.1, p.2.2] := by simp [flatT, flatE_snoc]

structure DT (w : World) (g : Nat) (f c : Int) (v : Value) (E : List Tri) (S : Nat → Prop) : Prop where
  head : RaH w g f c v
  row : w.ownsRow 0 35 2 v E.length (flatT E)
  body : ∀ p ∈ E, Bt w p.2.2 p.2.1 ∧ (p.2.1 ≠ [] → ∀ k, p.2.2.ownBlock = some k → S k)
  at_g : S g
  at_v : ∀ k, v.ownBlock = some k → S k

section
variable {w w' : World} {g : Nat} {f c : Int} {v : Value} {E : List Tri} {S : Nat → Prop}
theorem DT.keep (h : DT w g f c v E S) (hs : w.heap.size ≤ w'.heap.size) (hk : ∀ k, k < w.heap.size → S k → w'.heap[k]? = w.heap[k]?) : DT w' g f c v E S where
  head := ⟨(hk g (Array.getElem?_eq_some_iff.1 h.head.1).1 h.at_g).trans h.head.1, h.head.2⟩
  row := own_keep h.row fun k hv => hk k (h.row.lt k hv).2 (h.at_v k hv)
  body := fun p hp => by
    obtain ⟨⟨h1, h2⟩, h3⟩ := h.body p hp
    have hk' : p.2.1 ≠ [] → ∀ k, p.2.2.ownBlock = some k → w'.heap[k]? = w.heap[k]? := fun hne k he => hk k (h1.lt hne k he) (h3 hne k he)
    exact ⟨⟨h1.keep hs hk', h2.keep hk'⟩, h3⟩
  at_g := h.at_g
  at_v := h.at_v
theorem DT.below (h : DT w g f c v E S) (hb : Below w.heap.size w w') : DT w' g f c v E S := h.keep hb.size fun k hk _ => hb.block k hk
theorem DT.grown {row : Option Nat} (h : DT w g f c v E S) (hg : w.grownBy w' row) (hne : ∀ k, row = some k → ¬ S k) : DT w' g f c v E S :=
  h.keep hg.size fun k hk hS => hg.block k hk fun e => hne k e.symm hS
theorem DT.mono {S' : Nat → Prop} (h : DT w g f c v E S) (hS : ∀ k, k < w.heap.size → S k → S' k) : DT w g f c v E S' where
  head := h.head
  row := h.row
  body := fun p hp => ⟨(h.body p hp).1, fun hne k he => hS k ((h.body p hp).1.1.lt hne k he) ((h.body p hp).2 hne k he)⟩
  at_g := hS g (Array.getElem?_eq_some_iff.1 h.head.1).1 h.at_g
  at_v := fun k hk => hS k (h.row.lt k hk).2 (h.at_v k hk)
theorem DT.es (h : DT w g f c v E S) : Es w v (E.map fun p => (p.1, p.2.2)) := Es.of_own h.row

theorem DT.open (h : DT w g f c v E S) : ∃ A cp, v = .slice A E.length cp ∧ E.length ≤ cp ∧ cp ≤ maxLen ∧
    (∀ k (hk : k < E.length), ∃ ad, A = some ad ∧ w.cell? (ad.add (k * 2)) = some (.int .i64 E[k].1) ∧ w.cell? ⟨(ad.add (k * 2)).block, (ad.add (k * 2)).off + 1, none⟩ = some E[k].2.2 ∧ Bs w E[k].2.2 E[k].2.1) := by
  obtain ⟨A, cp, hv, h1, h2, -, hx⟩ := h.es
  rw [List.length_map] at hv h1
  refine ⟨A, cp, hv, h1, h2, fun k hk => ?_⟩
  obtain ⟨ad, rfl, -, hc⟩ := hx (by intro e; have := congrArg List.length e; simp at this; subst this; simp at hk)
  have := hc k (by simpa using hk)
  simp only [List.getElem_map] at this
  exact ⟨ad, rfl, this.1, this.2, (h.body _ (List.getElem_mem hk)).1.1⟩
end

def MakesR (F C : Int) (w : World) (e : Ending) (w' : World) : Prop :=
  ∃ g v, e = .returned (.pointer (some ⟨g, 0, none⟩)) ∧ w.heap.size ≤ g ∧ DT w' g (max 0 (min F 2)) (max 0 (min C 8)) v [] (fun k => w.heap.size ≤ k) ∧ Below w.heap.size w w'
theorem rnew_end (F C f c : Int) (w : World) (hf : max 0 (min F 2) = f) (hc : max 0 (min C 8) = c) :
    MakesR F C w (Ending.returned (Value.pointer (some ⟨w.heap.size, 0, none⟩))) (w.alloc (.cells #[.bool true, .int .i64 f, .int .i64 c, .slice none 0 0] 116)) := by
  unfold MakesR
  rw [hf, hc]
  exact ⟨w.heap.size, .slice none 0 0, rfl, Nat.le_refl _, ⟨⟨heap_alloc_new _ _, by omega, by omega, by omega, by omega⟩, World.ownsRow_nil _ _ _ _, (by intro p hp; cases hp), Nat.le_refl _, (by intro k hk; cases hk)⟩, (Below.refl _ _).alloc (Nat.le_refl _) _⟩
theorem rNew_any (F C : Int) (w : World) : Calls Tryz.prog 52 #[.int .i64 F, .int .i64 C] w (MakesR F C w) := by
  go_enter Tryz.func52, Tryz.ntmps52
  go_wp2
  all_goals
    go_ret
    refine rnew_end F C _ _ w ?_ ?_ <;> omega

theorem has_step {E : List Tri} {s : Int} {l : List UInt8} {k : Nat} (hlt : k < E.length) (hall : ∀ p ∈ E.take k, (p.1, p.2.1) ≠ (s, l)) (hne : (E[k].1, E[k].2.1) ≠ (s, l)) : ∀ p ∈ E.take (k + 1), (p.1, p.2.1) ≠ (s, l) := by
  intro p hp
  rw [List.take_succ_eq_append_getElem hlt] at hp
  rcases List.mem_append.1 hp with hp | hp
  · exact hall p hp
  · rw [List.mem_singleton.1 hp]; exact hne
theorem has_end {E : List Tri} {s : Int} {l : List UInt8} (hall : ∀ p ∈ E.take E.length, (p.1, p.2.1) ≠ (s, l)) : decide ((s, l) ∈ pairsT E) = false := by
  rw [List.take_length] at hall
  simp only [decide_eq_false_iff_not, pairsT, List.mem_map, not_exists, not_and]
  exact fun p hp e => hall p hp e
theorem has_hit {E : List Tri} {s : Int} {l : List UInt8} {k : Nat} (hlt : k < E.length) (h1 : E[k].1 = s) (h2 : E[k].2.1 = l) : decide ((s, l) ∈ pairsT E) = true := by
  simp only [decide_eq_true_eq, pairsT, List.mem_map]
  exact ⟨E[k], List.getElem_mem hlt, by rw [h1, h2]⟩

set_option maxHeartbeats 1000000 in
theorem Has_any (g : Nat) (f c s : Int) (v y : Value) (l : List UInt8) (E : List Tri) (S : Nat → Prop) (w : World) (h : DT w g f c v E S) (hv : Bs w y l) :
    Calls Tryz.prog 138 #[.pointer (some ⟨g, 0, none⟩), .agg #[.int .i64 s, y]] w fun e w' => e = .returned (.bool (decide ((s, l) ∈ pairsT E))) ∧ Below w.heap.size w w' := by
  obtain ⟨A0, cc0, rfl, -⟩ := hv.open
  have HV := Lib.hid hv
  have H := Lib.hid h
  obtain ⟨A, cp, rfl, hcp, hmx, -⟩ := h.open
  have hEl : E.length ≤ 9223372036854775807 := by have := hmx; unfold maxLen at this; omega
  have hev : ∀ W, Below (w.alloc (.cells #[.int .i64 s, .slice A0 l.length cc0] 35)).heap.size (w.alloc (.cells #[.int .i64 s, .slice A0 l.length cc0] 35)) W → Ev W w.heap.size (.int .i64 s) (.slice A0 l.length cc0) := fun W hb => Ev.below (heap_alloc_new _ _) hb
  have HE := Lib.hid hev
  have hb0 : Below w.heap.size w (w.alloc (.cells #[.int .i64 s, .slice A0 l.length cc0] 35)) := (Below.refl _ _).alloc (Nat.le_refl _) _
  clear hv h hcp hmx hev
  go_enter Tryz.func138, Tryz.ntmps138
  go_wp2
  generalize w.alloc (.cells #[.int .i64 s, .slice A0 l.length cc0] 35) = w1 at *
  go_loopw [5] (fun i wr => ∃ k : Nat, k ≤ E.length ∧ i = .int .i64 k ∧ (∀ p ∈ E.take k, (p.1, p.2.1) ≠ (s, l)) ∧ Below w1.heap.size w1 wr) (fun i _ => E.length - (intOf i).toNat)
  case atStart => exact ⟨0, Nat.zero_le _, rfl, (by simp), Below.refl _ _⟩
  case round =>
    obtain ⟨k, hk, rfl, hall, hbel⟩ := hrel
    have hD := H.out.below (hb0.trans (hbel.mono hb0.size))
    obtain ⟨c0, c1, c2, c3⟩ := hD.head.open
    obtain ⟨e0, e1, -⟩ := (HE.out wr hbel).open
    have HALL := Lib.hid hall
    clear hall
    by_cases hlt : k < E.length
    · obtain ⟨A', c', e, -, -, hx⟩ := hD.open
      injection e with e e2 e3
      subst e
      clear e2 e3
      obtain ⟨ad, rfl, x0, x1, hbx⟩ := hx k hlt
      clear hx
      have HD := Lib.hid hD
      clear hD
      have hby := HV.out.below (hb0.trans (hbel.mono hb0.size)) (Nat.le_refl _)
      by_cases hs : E[k].1 = s
      · have hd : decide (E[k].1 = s) = true := by simpa using hs
        by_cases hl : E[k].2.1 = l
        · have hsm : ∀ n, Calls Tryz.prog 80 #[E[k].2.2, .slice A0 l.length cc0] (wr.drewN n) fun e w' => e = .returned (.bool true) ∧ w' = wr.drewN n :=
            fun n => (Same_any _ _ _ _ (wr.drewN n) (Rd.drewN hbx n) (Rd.drewN hby n)).mono fun e w' h => ⟨by rw [h.1]; exact ret_bool (by simpa using hl), h.2.symm⟩
          have HIT := Lib.hid (has_hit hlt hs hl)
          clear hl
          go_wp2
          go_quiet (first | (go_at_call 80; exact Calls.quiet_of_same (hsm _)))
          go_wp2
          go_ret
          exact ⟨ret_bool HIT.out.symm, below_drewN (hb0.trans (hbel.mono hb0.size)) _⟩
        · have hsm : ∀ n, Calls Tryz.prog 80 #[E[k].2.2, .slice A0 l.length cc0] (wr.drewN n) fun e w' => e = .returned (.bool false) ∧ w' = wr.drewN n :=
            fun n => (Same_any _ _ _ _ (wr.drewN n) (Rd.drewN hbx n) (Rd.drewN hby n)).mono fun e w' h => ⟨by rw [h.1]; exact ret_bool (by simpa using hl), h.2.symm⟩
          have HST := Lib.hid (has_step hlt HALL.out (fun e => hl (Prod.mk.inj e).2))
          clear hl
          go_wp2
          go_quiet (first | (go_at_call 80; exact Calls.quiet_of_same (hsm _)))
          go_wp2
          go_roundw
          case rel => exact ⟨k + 1, by omega, by go_num, HST.out, below_drewN hbel _⟩
          case measure => simp [intOf]; omega
      · have hd : decide (E[k].1 = s) = false := by simpa using hs
        have HST := Lib.hid (has_step hlt HALL.out (fun e => hs (Prod.mk.inj e).1))
        go_wp2
        go_quiet (fail)
        go_wp2
        go_roundw
        case rel => exact ⟨k + 1, by omega, by go_num, HST.out, below_drewN hbel _⟩
        case measure => simp [intOf]; omega
    · obtain rfl : k = E.length := by omega
      have HEND := Lib.hid (has_end HALL.out)
      go_wp2
      go_ret
      exact ⟨ret_bool HEND.out.symm, hb0.trans (hbel.mono hb0.size)⟩

structure Off (S : Nat → Prop) (w w' : World) : Prop where
  os : w'.os = w.os
  tape : w'.tape = w.tape
  output : w'.output = w.output
  size : w.heap.size ≤ w'.heap.size
  block : ∀ k, k < w.heap.size → ¬ S k → w'.heap[k]? = w.heap[k]?
theorem Off.of_below {S : Nat → Prop} {w w' : World} (h : Below w.heap.size w w') : Off S w w' := ⟨h.os, h.tape, h.output, h.size, fun k hk _ => h.block k hk⟩
theorem Off.of_grown {S : Nat → Prop} {w w' : World} {row : Option Nat} (h : w.grownBy w' row) (hS : ∀ k, row = some k → S k) : Off S w w' := ⟨h.os, h.tape, h.output, h.size, fun k hk hn => h.block k hk fun e => hn (hS k e.symm)⟩
theorem Off.trans {S : Nat → Prop} {w w1 w' : World} (h : Off S w w1) (h1 : Off S w1 w') : Off S w w' :=
  ⟨h1.os.trans h.os, h1.tape.trans h.tape, h1.output.trans h.output, Nat.le_trans h.size h1.size, fun k hk hn => (h1.block k (Nat.lt_of_lt_of_le hk h.size) hn).trans (h.block k hk hn)⟩

theorem step_append2 {P : Program} {w : World} {ops : Array Oper} {o : Oper} {a : Act} {K : Act → World → Prop} {Q : Exit → Act → World → Prop} {E : Prop}
    (hgd : o.guard = none) (s x : Operand) (t : TypeId)
    (ho : o.op = .call { callee := .builtin .append, args := #[s, x], argTypes := #[t, t] })
    (base : Nat) (e : TypeId) (i : TypeInfo) (z : Value) (bytes : Nat) (ht : P.underlying t = some (.slice e)) (hi : P.info? e = some i) (hz : i.zero = some z)
    (hsize : i.size = 2) (hby : i.bytes = bytes) (hzs : z.cells.size = 2)
    (v : Value) (n : Nat) (xs : List Value) (hs : a.eval s = v) (hown : w.ownsRow base e 2 v n xs)
    (H : Nat) (x0 x1 : Value) (hx : a.eval x = .slice (some ⟨H, 0, none⟩) 1 1) (hc0 : w.cell? ⟨H, 0, none⟩ = some x0) (hc1 : w.cell? ⟨H, 1, none⟩ = some x1) (h0 : x0.oneCell' = true) (h1 : x1.oneCell' = true)
    (h63 : n + 1 ≤ maxLen) (hbytes : (n + 1) * bytes ≤ 140737488355328) (hbase : base ≤ w.heap.size)
    (h : ∀ v' w', w'.ownsRow base e 2 v' (n + 1) (xs ++ [x0, x1]) → w.grownBy w' v.ownBlock → (v'.ownBlock = v.ownBlock ∨ v'.ownBlock = some w.heap.size) → K (a.put o.dst v') w') :
    if Region.wanted o (yielded ops a.tmps) = true then Oper.wp P o a w K Q else E := by
  have hw : Region.wanted o (yielded ops a.tmps) = true := by simp [Region.wanted, hgd]
  rw [if_pos hw]
  obtain ⟨v', w', hrun, h2, h3, -, h5⟩ := run_append_own_at (P := P) w base t o.type e i z 2 bytes ht hi hz hsize hby hzs (by decide) v n xs hown ⟨H, 0, none⟩ 1 1 [x0, x1] rfl
    (fun j u hj => by
      rw [Addr.add_lit]
      match j with
      | 0 => simp at hj; subst hj; exact hc0
      | 1 => simp at hj; subst hj; exact hc1
      | j + 2 => simp at hj)
    (by intro u hu; simp at hu; rcases hu with rfl | rfl <;> assumption) h63 hbytes hbase
  unfold Oper.wp execOp
  simp only [ho, resolve, invoke, builtin, Sem.run_bind, Sem.run_pure, Result.andThen_ok, List.map_toArray, List.map_cons, List.map_nil, hs, hx, hrun]
  exact h v' w' h2 h3 h5

theorem own_ty {w : World} {B e sz n : Nat} {v : Value} {xs : List Value} (h : w.ownsRow B e sz v n xs) (k : Nat) (hk : v.ownBlock = some k) : ∃ cs fr, w.heap[k]? = some (.cells cs e fr) := by
  rcases h.2 with ⟨rfl, -⟩ | ⟨g, cap, cur, rfl, -, hg, -⟩
  · cases hk
  · simp [Value.ownBlock] at hk
    subst hk
    exact ⟨cur, _, hg⟩

theorem own_slice {w : World} {B e sz n : Nat} {v : Value} {xs : List Value} (h : w.ownsRow B e sz v n xs) : ∃ A c, v = .slice A n c := by
  rcases h.2 with ⟨rfl, rfl⟩ | ⟨g, cap, cur, rfl, -⟩
  · exact ⟨none, 0, rfl⟩
  · exact ⟨_, cap, rfl⟩

theorem DT.push {W w4 : World} {g : Nat} {f c s : Int} {v v4 y : Value} {l : List UInt8} {E : List Tri} {S : Nat → Prop} (h : DT W g f c v E S) (hy : Bt W y l) (hyS : l ≠ [] → ∀ k, y.ownBlock = some k → S k)
    (hown : w4.ownsRow 0 35 2 v4 (E.length + 1) (flatT E ++ [.int .i64 s, y])) (hg : W.grownBy w4 v.ownBlock) (ho : v4.ownBlock = v.ownBlock ∨ v4.ownBlock = some W.heap.size) (hS : S W.heap.size) :
    DT (w4.setCell ⟨g, 3, none⟩ v4) g f c v4 (E ++ [(s, l, y)]) S := by
  have hgl : g < W.heap.size := (Array.getElem?_eq_some_iff.1 h.head.1).1
  have hgv : v.ownBlock ≠ some g := fun e => by
    obtain ⟨cs, fr, hk⟩ := own_ty h.row g e
    have := h.head.1
    rw [hk] at this
    injection this with this
    injection this with _ this
    exact absurd this (by decide)
  have hhead : w4.heap[g]? = some (.cells #[.bool true, .int .i64 f, .int .i64 c, v] 116 (0, 0)) := (hg.block g hgl (fun e => hgv e.symm)).trans h.head.1
  have hset : ∀ k, k ≠ g → (w4.setCell ⟨g, 3, none⟩ v4).heap[k]? = w4.heap[k]? := fun k hk => Below.heap_setCell _ _ _ _ (by intro e; exact hk e)
  have hgv4 : ∀ k, v4.ownBlock = some k → k ≠ g := fun k hk e => by
    subst e
    obtain ⟨cs, fr, hk'⟩ := own_ty hown k hk
    rw [hhead] at hk'
    injection hk' with hk'
    injection hk' with _ hk'
    exact absurd hk' (by decide)
  have hvS : ∀ k, v4.ownBlock = some k → S k := fun k hk => by
    rcases ho with ho | ho
    · exact h.at_v k (ho ▸ hk)
    · rw [hk] at ho; injection ho with ho; rw [ho]; exact hS
  have hsz : W.heap.size ≤ (w4.setCell ⟨g, 3, none⟩ v4).heap.size := by have := hg.size; simpa [World.setCell] using this
  refine ⟨⟨?_, h.head.2⟩, ?_, ?_, h.at_g, hvS⟩
  · simp [World.setCell, Array.getElem?_modify, hhead]
  · rw [flatT_snoc, List.length_append, List.length_singleton]
    exact own_keep hown fun k hk => hset k (hgv4 k hk)
  · intro p hp
    have hp' : Bt W p.2.2 p.2.1 ∧ (p.2.1 ≠ [] → ∀ k, p.2.2.ownBlock = some k → S k) := by
      rcases List.mem_append.1 hp with hp | hp
      · exact h.body p hp
      · rw [List.mem_singleton.1 hp]; exact ⟨hy, hyS⟩
    have hk : p.2.1 ≠ [] → ∀ k, p.2.2.ownBlock = some k → (w4.setCell ⟨g, 3, none⟩ v4).heap[k]? = W.heap[k]? := fun hne k he => by
      obtain ⟨cs, fr, hty⟩ := hp'.1.2 hne k he
      have hkl := hp'.1.1.lt hne k he
      have h1 : k ≠ g := by
        rintro rfl
        rw [h.head.1] at hty
        injection hty with hty
        injection hty with _ hty
        exact absurd hty (by decide)
      have h2 : some k ≠ v.ownBlock := fun e => by
        obtain ⟨cs', fr', hk'⟩ := own_ty h.row k e.symm
        rw [hk'] at hty
        injection hty with hty
        injection hty with _ hty
        exact absurd hty (by decide)
      exact (hset k h1).trans (hg.block k hkl h2)
    exact ⟨⟨hp'.1.1.keep hsz hk, hp'.1.2.keep hk⟩, hp'.2⟩

theorem DT.beside {w w' : World} {g h : Nat} {f c : Int} {v x y : Value} {E : List Tri} {S : Nat → Prop} (hD : DT w g f c v E S) (hev : Ev w h x y) (hv : v.ownBlock ≠ some h) (hon : w.grownBy w' (some h)) : DT w' g f c v E S := by
  have hev' : w.heap[h]? = some (.cells #[x, y] 35 (0, 0)) := hev
  have h' : DT w g f c v E (fun k => S k ∧ k ≠ h) := ⟨hD.head, hD.row, fun p hp => ⟨(hD.body p hp).1, fun hne k hk => ⟨(hD.body p hp).2 hne k hk, fun e => by
      subst e
      obtain ⟨cs, fr, hty⟩ := (hD.body p hp).1.2 hne k hk
      rw [hev'] at hty
      injection hty with hty
      injection hty with _ hty
      exact absurd hty (by decide)⟩⟩, ⟨hD.at_g, fun e => by
      subst e
      have hty := hD.head.1
      rw [hev'] at hty
      injection hty with hty
      injection hty with _ hty
      exact absurd hty (by decide)⟩, fun k hk => ⟨hD.at_v k hk, fun e => hv (e ▸ hk)⟩⟩
  exact (h'.grown hon (fun k hk hS => hS.2 (by injection hk with hk; exact hk.symm))).mono (fun _ _ h => h.1)

def SignsR (g : Nat) (f c s : Int) (l : List UInt8) (E : List Tri) (S : Nat → Prop) (w : World) (e : Ending) (w' : World) : Prop :=
  ∃ v' vf E', e = .returned (.tuple #[.agg #[.int .i64 (signS f c s l), vf], .int .i64 (signE f c s l)]) ∧ Bs w' vf (signL f c s l) ∧ DT w' g f c v' E' S ∧ pairsT E' = signT f c s l (pairsT E) ∧ Off S w w' ∧ New w.heap.size vf

set_option maxHeartbeats 1000000 in
theorem rSign_any (g : Nat) (f c s : Int) (v y : Value) (l : List UInt8) (E : List Tri) (S : Nat → Prop) (w : World) (h : DT w g f c v E S) (hs : ok64 s) (hv : Bs w y l) (hl : l.length ≤ 1000000000) (hE : E.length ≤ 1000000000) (hS : ∀ k, w.heap.size ≤ k → S k) :
    Calls Tryz.prog 112 #[.pointer (some ⟨g, 0, none⟩), .int .i64 s, y] w (SignsR g f c s l E S w) := by
  obtain ⟨i0, hi, hz0, hz1, hz2⟩ := info_parts u8info
  obtain ⟨i1, hj, hy0, hy1, hy2⟩ := info_parts envinfo
  have hb0 : Below w.heap.size w (w.alloc (.cells #[.int .i64 0, .slice none 0 0] 35)) := (Below.refl _ _).alloc (Nat.le_refl _) _
  have hk := rKnown_any (h.below hb0).head s hs
  have hev0 : Ev (w.alloc (.cells #[.int .i64 0, .slice none 0 0] 35)) w.heap.size (.int .i64 0) (.slice none 0 0) := heap_alloc_new _ _
  rcases hkn : knB f c s with _ | _
  · have he := signE_no (l := l) hkn
    unfold SignsR signS signL signT
    rw [he]
    simp only [show ((30 : Int) = 0) = False by simp, if_false]
    rw [hkn] at hk
    have HK := Lib.hid hk
    clear hk he hv hkn hev0
    go_enter Tryz.func112, Tryz.ntmps112
    go_wp2_with (first
      | (go_at_call 137; refine HK.out.mono ?_; rintro e w' ⟨rfl, hww⟩; rw [hww]; clear hww w'))
    (try simp only [Exit.inBlock, Exit.then])
    refine bodyPost_ret (results_cell2 rfl _ _ w.heap.size 35 _ (0, 0) _ rfl (heap_alloc_new _ _) Tryz.underlying35 rfl envSize) rfl ?_
    exact ⟨_, _, E, rfl, Bs.nil _, h.below hb0, rfl, Off.of_below hb0, New.nil _⟩
  · rw [hkn] at hk
    have HK := Lib.hid hk
    by_cases hlong : 16777216 < l.length
    · have he := signE_long (l := l) hkn hlong
      unfold SignsR signS signL signT
      rw [he]
      simp only [show ((11 : Int) = 0) = False by simp, if_false]
      obtain ⟨A, cc, rfl, -⟩ := hv.open
      have hlI : (16777216 : Int) < (l.length : Int) := by omega
      clear hk he hv hkn hev0
      go_enter Tryz.func112, Tryz.ntmps112
      go_wp2_with (first
        | (go_at_call 137; refine HK.out.mono ?_; rintro e w' ⟨rfl, hww⟩; rw [hww]; clear hww w'))
      (try simp only [Exit.inBlock, Exit.then])
      refine bodyPost_ret (results_cell2 rfl _ _ w.heap.size 35 _ (0, 0) _ rfl (heap_alloc_new _ _) Tryz.underlying35 rfl envSize) rfl ?_
      exact ⟨_, _, E, rfl, Bs.nil _, h.below hb0, rfl, Off.of_below hb0, New.nil _⟩
    · have he := signE_ok (l := l) hkn hlong
      unfold SignsR signS signL signT
      rw [he]
      simp only [if_true]
      have hlI : (l.length : Int) ≤ 16777216 := by omega
      have HV := Lib.hid hv
      have HD := Lib.hid h
      have HS := Lib.hid hS
      obtain ⟨A, cc, rfl, -⟩ := hv.open
      obtain ⟨w0, hw0⟩ : ∃ w0, w0 = w.alloc (.cells #[.int .i64 0, .slice none 0 0] 35) := ⟨_, rfl⟩
      have hz : w0.heap.size = w.heap.size + 1 := by rw [hw0]; simp
      rw [← hw0] at hb0 hev0
      have hv0 := hv.below hb0 (Nat.le_refl _)
      have HV0 := Lib.hid hv0
      have HW := Lib.hid hw0
      clear hz
      rcases hm : decide ((s, l) ∈ pairsT E) with _ | _
      · have hT : addP (pairsT E) s l = pairsT E ++ [(s, l)] := by unfold addP; rw [if_neg (by simpa using hm)]
        rw [hT]
        have HM := Lib.hid hm
        clear hk he hv hkn hw0 h hS hv0 hm hT
        go_enter Tryz.func112, Tryz.ntmps112
        go_wp2_with (first
          | (go_at_call 137; refine HK.out.mono ?_; rintro e w' ⟨rfl, hww⟩; rw [hww, ← HW.out]; clear hww w')
          | (at_builtin; refine wpList_append_rdo _ rfl (.tmp 19) (.tmp 20) 33 rfl w0.heap.size 5 i0 (.int .u8 0) 1 Tryz.underlying33 hi hz0 hz1 hz2 rfl _ _ _ rfl (own_empty _ _ _ _ (Nat.le_refl _) rfl) _ _ rfl (HV0.out.below ((Below.refl _ _).alloc (Nat.le_refl _) _) (Nat.le_refl _)) (bc_one _) (by simp; unfold maxLen; omega) (by simp; omega) (by simp) ?_; intro v1 w1 hown1 hg1 ho1; have hb1 : Below w0.heap.size w0 w1 := ((Below.refl w0.heap.size w0).alloc (Nat.le_refl _) _).grown hg1 (by simp) (by intro k h; injection h with h; simp only at h; omega); have hnw1 := New.of_own hown1; have hty1 := Ty.of_own hown1 l; have hbs1 : Bs w1 v1 l := Rd.of_own (by simpa using hown1); have hbw1 : Below w.heap.size w w1 := hb0.trans (hb1.mono hb0.size); obtain ⟨A1, c1, rfl, -, -, -, -⟩ := hbs1.open; clear hg1 ho1 hown1)
          | (go_at_call 138; refine (Has_any g f c s v _ l E S _ (HD.out.below (hbw1.alloc hbw1.size _)) (hbs1.below ((Below.refl _ _).alloc (Nat.le_refl _) _) (Nat.le_refl _))).mono ?_; rw [HM.out]; rintro e w3 ⟨rfl, hb3⟩; obtain ⟨d0, d1, -, -, -⟩ := Ev.open (Ev.below (heap_alloc_new _ _) hb3); obtain ⟨y0, y1, z0, z1, -⟩ := Ev.open (((hev0.below hb1).below ((Below.refl _ _).alloc (Nat.le_refl _) (.cells #[.int .i64 s, .slice A1 l.length c1] 35))).below hb3)))
        have hB3 : Below w.heap.size w w3 := (hbw1.alloc hbw1.size _).trans (hb3.mono (by have := hbw1.size; simp; omega))
        have hD3 : DT w3 g f c v E (fun k => k < w.heap.size ∧ S k) := (HD.out.mono fun k hk hk' => ⟨hk, hk'⟩).below hB3
        have hev3 : Ev w3 w1.heap.size (.int .i64 s) (.slice A1 l.length c1) := Ev.below (heap_alloc_new _ _) hb3
        have hev6 : Ev w3 w.heap.size (.int .i64 0) (.slice none 0 0) := ((hev0.below hb1).below ((Below.refl _ _).alloc (Nat.le_refl _) (.cells #[.int .i64 s, .slice A1 l.length c1] 35))).below hb3
        have hbs3 := (hbs1.below ((Below.refl _ _).alloc (Nat.le_refl _) (.cells #[.int .i64 s, .slice A1 l.length c1] 35)) (Nat.le_refl _)).below hb3 (Nat.le_refl _)
        have hty3 := (hty1.below ((Below.refl _ _).alloc (Nat.le_refl _) (.cells #[.int .i64 s, .slice A1 l.length c1] 35)) (Nat.le_refl _)).below hb3 (Nat.le_refl _)
        have hlt13 := hev3.open.2.2.2.2
        have hlt6 : w.heap.size < w0.heap.size := hev0.open.2.2.2.2
        obtain ⟨W2, hW2⟩ : ∃ W2, W2 = (w3.alloc (.cells #[.int .i64 s, .slice A1 l.length c1] 35)).drew := ⟨_, rfl⟩
        have hb32 : Below w3.heap.size w3 W2 := by rw [hW2]; exact ((Below.refl _ _).alloc (Nat.le_refl _) _).drew
        have hevA : Ev W2 w3.heap.size (.int .i64 s) (.slice A1 l.length c1) := by rw [hW2]; exact heap_alloc_new w3 _
        have hDA := hD3.below hb32
        have hevB := hev3.below hb32
        have hevC := hev6.below hb32
        have hsz2 := hb32.size
        have hgz : g < w.heap.size := hD3.at_g.1
        have hvz : ∀ k, v.ownBlock = some k → k < w.heap.size := fun k hk => (hD3.at_v k hk).1
        have hs1 := hbw1.size
        have hgv : v.ownBlock ≠ some g := fun e => by
          obtain ⟨cs, fr, hk⟩ := own_ty hDA.row g e
          have := hDA.head.1
          rw [hk] at this
          injection this with this
          injection this with _ this
          exact absurd this (by decide)
        have hcell : ∀ W, W2.grownBy W v.ownBlock → W.heap[g]? = some (.cells #[.bool true, .int .i64 f, .int .i64 c, v] 116 (0, 0)) ∧ Ev W w1.heap.size (.int .i64 s) (.slice A1 l.length c1) ∧ Ev W w.heap.size (.int .i64 0) (.slice none 0 0) := fun W hg =>
          ⟨(hg.block g (by omega) (fun e => hgv e.symm)).trans hDA.head.1, hevB.kept hg (fun e => by have := hvz _ e.symm; omega), hevC.kept hg (fun e => by have := hvz _ e.symm; omega)⟩
        have hfacts : ∀ W : World, W.heap[g]? = some (.cells #[.bool true, .int .i64 f, .int .i64 c, v] 116 (0, 0)) ∧ Ev W w1.heap.size (.int .i64 s) (.slice A1 l.length c1) → W.cell? ⟨g, 3, none⟩ = some v ∧ W.frozen? ⟨g, 3, none⟩ = false ∧ W.cell? ⟨w1.heap.size, 0, none⟩ = some (.int .i64 s) ∧ W.cell? ⟨w1.heap.size, 1, none⟩ = some (.slice A1 l.length c1) := fun W hW =>
          ⟨(cell_of_row W g 3 _ _ (0, 0) hW.1).trans rfl, by simp [World.frozen?, hW.1], hW.2.open.1, hW.2.open.2.1⟩
        have hS0 := hfacts w3.drew ⟨hD3.head.1, hev3⟩
        have hSA := hfacts W2 ⟨hDA.head.1, hevB⟩
        have hcA := hevA.open
        have HDA := Lib.hid hDA
        have HCELL := Lib.hid hcell
        have HFACTS := Lib.hid hfacts
        have HD3 := Lib.hid hD3
        have HW2 := Lib.hid hW2
        rw [hW2] at hSA
        clear d0 d1 y0 y1 z0 z1 hcell hfacts hW2 hD3 hevB hevC
        obtain ⟨s1, s2, s3, s4⟩ := hS0
        obtain ⟨t1, t2, t3, t4⟩ := hSA
        go_region_law (rw [← HW2.out]; refine step_append2 rfl (.tmp 31) (.tmp 33) 36 rfl 0 35 i1 (.agg #[.int .i64 0, .slice none 0 0]) 32 Tryz.underlying36 hj hy0 hy1 hy2 rfl v E.length (flatT E) rfl HDA.out.row w3.heap.size _ _ rfl hcA.1 hcA.2.1 rfl rfl (by unfold maxLen; omega) (by omega) (Nat.zero_le _) ?_; intro v4 w4 hown4 hg4 ho4; obtain ⟨A4, c4, rfl⟩ := own_slice hown4; have hlater := HFACTS.out w4 ⟨(HCELL.out w4 hg4).1, (HCELL.out w4 hg4).2.1⟩)
        all_goals
          obtain ⟨hA4, hE4, hF4⟩ := HCELL.out _ hg4
          have hBt2 : Bt W2 (.slice A1 l.length c1) l := ⟨hbs3.below hb32 (Nat.le_refl _), hty3.below hb32 (Nat.le_refl _)⟩
          have hD5 := DT.push (s := s) (HDA.out.mono (S' := S) (fun k _ hk => hk.2)) hBt2 (fun _ k hk => HS.out k (by have := hnw1 k hk; omega)) hown4 hg4 ho4 (HS.out _ (by omega))
          have hon5 : w4.grownBy (w4.setCell ⟨g, 3, none⟩ (.slice A4 (E.length + 1) c4)) (some g) := Only.set (Only.refl _ _) 3 _
          have hev5 := hE4.kept hon5 (by intro e; injection e with e; omega)
          have hev6' := hF4.kept hon5 (by intro e; injection e with e; omega)
          have hoff : Off S w (w4.setCell ⟨g, 3, none⟩ (.slice A4 (E.length + 1) c4)) :=
            (((Off.of_below hB3).trans (Off.of_below hb32)).trans (Off.of_grown hg4 (fun k hk => (HDA.out.at_v k hk).2))).trans (Off.of_grown hon5 (fun k hk => by injection hk with hk; subst hk; exact HDA.out.at_g.2))
          have hz5 := hoff.size
          have hv5 : (Value.slice A4 (E.length + 1) c4).ownBlock ≠ some w.heap.size := fun e => by
            rcases ho4 with ho | ho
            · have := hvz _ (ho ▸ e); omega
            · rw [e] at ho; injection ho with ho; omega
          have hbs5 : Bs (w4.setCell ⟨g, 3, none⟩ (.slice A4 (E.length + 1) c4)) (.slice A1 l.length c1) l := (hD5.body (s, l, .slice A1 l.length c1) (by simp)).1.1
          have hD5' := hD5
          clear hD5 hA4 hE4 hF4 hown4 hg4 ho4 hlater s1 s2 s3 s4 t1 t2 t3 t4 hcA hevA hDA hon5 hBt2 hbs3 hty3
          generalize w4.setCell ⟨g, 3, none⟩ (.slice A4 (E.length + 1) c4) = w5 at *
          obtain ⟨d0, d1, -, -, -⟩ := hev5.open
          obtain ⟨y0, y1, z0, z1, hlt65⟩ := hev6'.open
          have HD5 := Lib.hid hD5'
          clear hD5'
          go_wp2
          have hon : w5.grownBy ((w5.setCell ⟨w.heap.size, 0, none⟩ (.int .i64 s)).setCell ⟨w.heap.size, 1, none⟩ (.slice A1 l.length c1)) (some w.heap.size) := (Only.set (Only.set (Only.refl _ _) 0 _) 1 _)
          (try simp only [Exit.inBlock, Exit.then])
          refine bodyPost_ret (results_cell2 rfl _ _ w.heap.size 35 _ (0, 0) _ rfl (hev6'.set2 _ _) Tryz.underlying35 rfl envSize) rfl ?_
          refine ⟨_, _, _, rfl, hbs5.grown hon (fun _ k hk e => ?_), HD5.out.beside hev6' hv5 hon, by simp [pairsT], hoff.trans (Off.of_grown hon (fun k hk => ?_)), hnw1.mono (Nat.le_of_lt hlt6)⟩
          · injection e with e
            have := hnw1 k hk
            omega
          · injection hk with hk
            exact HS.out k (by omega)
      · have hT : addP (pairsT E) s l = pairsT E := by unfold addP; rw [if_pos (by simpa using hm)]
        rw [hT]
        have HM := Lib.hid hm
        clear hk he hv hkn hw0 h hS hv0 hm hT
        go_enter Tryz.func112, Tryz.ntmps112
        go_wp2_with (first
          | (go_at_call 137; refine HK.out.mono ?_; rintro e w' ⟨rfl, hww⟩; rw [hww, ← HW.out]; clear hww w')
          | (at_builtin; refine wpList_append_rdo _ rfl (.tmp 19) (.tmp 20) 33 rfl w0.heap.size 5 i0 (.int .u8 0) 1 Tryz.underlying33 hi hz0 hz1 hz2 rfl _ _ _ rfl (own_empty _ _ _ _ (Nat.le_refl _) rfl) _ _ rfl (HV0.out.below ((Below.refl _ _).alloc (Nat.le_refl _) _) (Nat.le_refl _)) (bc_one _) (by simp; unfold maxLen; omega) (by simp; omega) (by simp) ?_; intro v1 w1 hown1 hg1 ho1; have hb1 : Below w0.heap.size w0 w1 := ((Below.refl w0.heap.size w0).alloc (Nat.le_refl _) _).grown hg1 (by simp) (by intro k h; injection h with h; simp only at h; omega); have hnw1 := New.of_own hown1; have hty1 := Ty.of_own hown1 l; have hbs1 : Bs w1 v1 l := Rd.of_own (by simpa using hown1); have hbw1 : Below w.heap.size w w1 := hb0.trans (hb1.mono hb0.size); obtain ⟨A1, c1, rfl, -, -, -, -⟩ := hbs1.open; clear hg1 ho1 hown1)
          | (go_at_call 138; refine (Has_any g f c s v _ l E S _ (HD.out.below (hbw1.alloc hbw1.size _)) (hbs1.below ((Below.refl _ _).alloc (Nat.le_refl _) _) (Nat.le_refl _))).mono ?_; rw [HM.out]; rintro e w3 ⟨rfl, hb3⟩; obtain ⟨d0, d1, -, -, -⟩ := Ev.open (Ev.below (heap_alloc_new _ _) hb3); obtain ⟨y0, y1, z0, z1, -⟩ := Ev.open (((hev0.below hb1).below ((Below.refl _ _).alloc (Nat.le_refl _) (.cells #[.int .i64 s, .slice A1 l.length c1] 35))).below hb3)))
        have hB3 : Below w.heap.size w w3 := (hbw1.alloc hbw1.size _).trans (hb3.mono (by have := hbw1.size; simp; omega))
        have hD3 : DT w3 g f c v E (fun k => k < w.heap.size ∧ S k) := (HD.out.mono fun k hk hk' => ⟨hk, hk'⟩).below hB3
        have hev6 : Ev w3 w.heap.size (.int .i64 0) (.slice none 0 0) := ((hev0.below hb1).below ((Below.refl _ _).alloc (Nat.le_refl _) (.cells #[.int .i64 s, .slice A1 l.length c1] 35))).below hb3
        have hbs3 := (hbs1.below ((Below.refl _ _).alloc (Nat.le_refl _) (.cells #[.int .i64 s, .slice A1 l.length c1] 35)) (Nat.le_refl _)).below hb3 (Nat.le_refl _)
        have hlt6 : w.heap.size < w0.heap.size := hev0.open.2.2.2.2
        have hon : w3.grownBy ((w3.setCell ⟨w.heap.size, 0, none⟩ (.int .i64 s)).setCell ⟨w.heap.size, 1, none⟩ (.slice A1 l.length c1)) (some w.heap.size) := (Only.set (Only.set (Only.refl _ _) 0 _) 1 _)
        (try simp only [Exit.inBlock, Exit.then])
        refine bodyPost_ret (results_cell2 rfl _ _ w.heap.size 35 _ (0, 0) _ rfl (hev6.set2 _ _) Tryz.underlying35 rfl envSize) rfl ?_
        refine ⟨v, _, E, rfl, hbs3.grown hon (fun _ k hk e => ?_), (hD3.grown hon (fun k hk hk' => ?_)).mono (fun k _ hk => hk.2), rfl, (Off.of_below hB3).trans (Off.of_grown hon (fun k hk => ?_)), hnw1.mono (Nat.le_of_lt hlt6)⟩
        · injection e with e
          have := hnw1 k hk
          omega
        · injection hk with hk
          omega
        · injection hk with hk
          exact HS.out k (by omega)

abbrev KeptC (C C' : Nat → Prop) (w w' : World) : Prop := ∀ k, k < w.heap.size → C k → w'.heap[k]? = w.heap[k]? ∧ C' k
def RowC {α : Type} (C : Nat → Prop) (w : World) (K : Nat) (R : World → Addr → α → Prop) (A : Option Addr) (c : Nat) (l : List α) : Prop :=
  RowM w K R A c l ∧ (l ≠ [] → ∀ ad, A = some ad → C ad.block)
theorem RowC.keep {α : Type} {C C' : Nat → Prop} {w w' : World} {K : Nat} {R R' : World → Addr → α → Prop} {A : Option Addr} {c : Nat} {l : List α} (h : RowC C w K R A c l) (hz : w.heap.size ≤ w'.heap.size) (hk : KeptC C C' w w')
    (hR : ∀ (p : Addr) (x : α), p.block < w.heap.size → C p.block → R w p x → R' w' p x) : RowC C' w' K R' A c l := by
  obtain ⟨⟨h1, h2, h3, h4⟩, h5⟩ := h
  refine ⟨⟨h1, h2, h3, fun j hj => ?_⟩, fun hne ad ha => ?_⟩
  · obtain ⟨ad, e1, e2, e3⟩ := h4 j hj
    have hc := h5 (by intro e; rw [e] at hj; exact absurd hj (Nat.not_lt_zero _)) ad e1
    exact ⟨ad, e1, Nat.lt_of_lt_of_le e2 hz, hR _ _ (by rw [block_add]; exact e2) (by rw [block_add]; exact hc) e3⟩
  · obtain ⟨x, t, rfl⟩ := List.exists_cons_of_ne_nil hne
    obtain ⟨ad', e1, e2, -⟩ := h4 0 (by simp)
    rw [ha] at e1
    injection e1 with e1
    subst e1
    exact (hk _ e2 (h5 hne _ ha)).2
def EnvC (C : Nat → Prop) (w : World) (p : Addr) (e : Int × List UInt8) : Prop :=
  w.cell? p = some (.int .i64 e.1) ∧ ∃ bv, w.cell? ⟨p.block, p.off + 1, none⟩ = some bv ∧ Bs w bv e.2 ∧ (e.2 ≠ [] → ∀ k, bv.ownBlock = some k → C k)
theorem EnvC.p {C : Nat → Prop} {w : World} {p : Addr} {e : Int × List UInt8} (h : EnvC C w p e) : EnvP w p e := by
  obtain ⟨h1, bv, h2, h3, -⟩ := h
  exact ⟨h1, bv, h2, h3⟩
theorem EnvC.keep {C C' : Nat → Prop} {w w' : World} {p : Addr} {e : Int × List UInt8} (h : EnvC C w p e) (hz : w.heap.size ≤ w'.heap.size) (hk : KeptC C C' w w') (hl : p.block < w.heap.size) (hp : C p.block) : EnvC C' w' p e := by
  obtain ⟨h1, bv, h2, h3, h4⟩ := h
  refine ⟨(World.cell?_of_block (hk _ hl hp).1).trans h1, bv, (World.cell?_of_block (a := ⟨p.block, p.off + 1, none⟩) (hk _ hl hp).1).trans h2, h3.keep hz fun hne k e => (hk k (h3.lt hne k e) (h4 hne k e)).1, fun hne k e => (hk k (h3.lt hne k e) (h4 hne k e)).2⟩
structure BlkC (C : Nat → Prop) (w : World) (b : Blk) (A : Option Addr) (c : Nat) (D : Option Addr) (d : Nat) : Prop where
  q : RowC C w 2 (EnvC C) A c b.reqs
  r : RowC C w 2 ResP D d b.ress
theorem BlkC.keep {C C' : Nat → Prop} {w w' : World} {b : Blk} {A : Option Addr} {c : Nat} {D : Option Addr} {d : Nat} (h : BlkC C w b A c D d) (hz : w.heap.size ≤ w'.heap.size) (hk : KeptC C C' w w') : BlkC C' w' b A c D d :=
  ⟨h.q.keep hz hk fun p x hl hp hx => hx.keep hz hk hl hp, h.r.keep hz hk fun p x hl hp hx => ⟨(World.cell?_of_block (hk _ hl hp).1).trans hx.1, (World.cell?_of_block (a := ⟨p.block, p.off + 1, none⟩) (hk _ hl hp).1).trans hx.2⟩⟩
theorem RowM.to {α : Type} {w : World} {K : Nat} {R R' : World → Addr → α → Prop} {A : Option Addr} {c : Nat} {l : List α} (h : RowM w K R A c l) (hR : ∀ p x, R w p x → R' w p x) : RowM w K R' A c l := by
  obtain ⟨h1, h2, h3, h4⟩ := h
  refine ⟨h1, h2, h3, fun j hj => ?_⟩
  obtain ⟨ad, e1, e2, e3⟩ := h4 j hj
  exact ⟨ad, e1, e2, hR _ _ e3⟩
theorem BlkC.k {C : Nat → Prop} {w : World} {b : Blk} {A : Option Addr} {c : Nat} {D : Option Addr} {d : Nat} (h : BlkC C w b A c D d) : BlkK w b A c D d := ⟨h.q.1.to fun _ _ => EnvC.p, h.r.1⟩
structure KB where
  b : Blk
  A : Option Addr
  c : Nat
  D : Option Addr
  d : Nat
section
variable {cs : Ldg → Value → Array Value} {t : TypeId} {S : Nat → Prop} {w w' : World} {g : Nat} {L : Ldg} {v : Value} {qs : List KB}
end

theorem own_bs {w : World} {B : Nat} {v : Value} {n : Nat} {l : List UInt8} (h : w.ownsRow B 5 1 v n (l.map bc)) : Bs w v l := Rd.of_own h
def AllBs (W : World) : List Value → List (List UInt8) → Prop
  | [], [] => True
  | x :: vs, l :: ls => Bs W x l ∧ AllBs W vs ls
  | _, _ => False
theorem AllBs.len {W : World} : ∀ {vs : List Value} {ls : List (List UInt8)}, AllBs W vs ls → vs.length = ls.length
  | [], [], _ => rfl
  | x :: vs, l :: ls, h => by rw [List.length_cons, List.length_cons, AllBs.len h.2]
theorem AllBs.at {W : World} : ∀ {vs : List Value} {ls : List (List UInt8)}, AllBs W vs ls → ∀ (k : Nat) (x : Value) (l : List UInt8), vs[k]? = some x → ls[k]? = some l → Bs W x l
  | x :: vs, l :: ls, h, 0, y, m, h1, h2 => by
    injection h1 with h1
    injection h2 with h2
    subst h1 h2
    exact h.1
  | x :: vs, l :: ls, h, k + 1, y, m, h1, h2 => AllBs.at h.2 k y m h1 h2

theorem heapB {w w' : World} {g : Nat} {o : Obj} (h : w.heap[g]? = some o) (hb : Below w.heap.size w w') : w'.heap[g]? = some o := (hb.block g (Array.getElem?_eq_some_iff.1 h).1).trans h

theorem step_alloc {P : Program} {w : World} {ops : Array Oper} {o : Oper} {a : Act} {K : Act → World → Prop} {Q : Exit → Act → World → Prop} {E : Prop}
    (hgd : o.guard = none) (t : TypeId) (ho : o.op = .alloc t) (cs : Array Value) (e : TypeId)
    (hrun : ∀ W, (Instr.alloc t true (.tuple #[])).run P W = .ok (.pointer (some ⟨W.heap.size, 0, none⟩)) (W.alloc (.cells cs e)))
    (h : ∀ g w', w'.heap[g]? = some (.cells cs e (0, 0)) → Below w.heap.size w w' → w.heap.size ≤ g → K (a.put o.dst (.pointer (some ⟨g, 0, none⟩))) w') :
    if Region.wanted o (yielded ops a.tmps) = true then Oper.wp P o a w K Q else E := by
  have hw : Region.wanted o (yielded ops a.tmps) = true := by simp [Region.wanted, hgd]
  rw [if_pos hw]
  unfold Oper.wp execOp
  simp only [ho, hrun, Sem.run_bind, Sem.run_pure, Result.andThen_ok]
  exact h _ _ (heap_alloc_new w _) ((Below.refl _ _).alloc (Nat.le_refl _) _) (Nat.le_refl _)
theorem step_store {w : World} {ops : Array Oper} {o : Oper} {a : Act} {K : Act → World → Prop} {Q : Exit → Act → World → Prop} {E : Prop}
    (hgd : o.guard = none) (ty : TypeId) (x y : Operand) (ho : o.op = .store ty x y)
    (b : Nat) (cells cur : Array Value) (hx : a.eval x = .pointer (some ⟨b, 0, none⟩)) (hy : a.eval y = .agg cells)
    (hh : w.heap[b]? = some (.cells cur ty (0, 0))) (hs : cur.size = cells.size) (hi : (Tryz.prog.info? ty).map (·.size) = some cells.size) (h1 : ∀ u ∈ cells.toList, u.oneCell' = true)
    (h : ∀ w', w'.heap[b]? = some (.cells cells ty (0, 0)) → Only b w w' → K (a.put o.dst undef) w') :
    if Region.wanted o (yielded ops a.tmps) = true then Oper.wp Tryz.prog o a w K Q else E := by
  have hw : Region.wanted o (yielded ops a.tmps) = true := by simp [Region.wanted, hgd]
  rw [if_pos hw]
  exact wp_store_row ty x y ho b cells cur hx hy hh hs hi (by rw [Array.all_eq_true']; exact fun u hu => h1 u (by simpa using hu)) (h _ (setRow_heap w b cur cells ty (0, 0) hh) (only_setRow w b cells))
theorem onlyHeap {w w' : World} {b g : Nat} {o : Obj} (h : Only b w w') (hg : w.heap[g]? = some o) (hne : g ≠ b) : w'.heap[g]? = some o := (h.block g (Array.getElem?_eq_some_iff.1 hg).1 (by intro e; injection e with e; exact hne e)).trans hg
theorem onlyCell {w w' : World} {b : Nat} {p : Addr} {x : Value} (h : Only b w w') (hp : w.cell? p = some x) (hne : p.block ≠ b) : w'.cell? p = some x := (World.cell?_of_block (h.block p.block (World.block_lt_of_cell? _ _ hp) (by intro e; injection e with e; exact hne e))).trans hp
theorem onlyBelow {a w w' : World} {b B : Nat} (h : Below B a w) (ho : Only b w w') (hb : B ≤ b) (hB : B ≤ a.heap.size) : Below B a w' := h.trans (Only.to_below ho (Nat.le_trans hB h.size) hb)

end Go.Proofs.YticfnjihjpgneaaGreat
