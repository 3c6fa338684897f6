/- tc: BMem ANum ATab ASign ACheck AEnv ARef ARefS LMem Concat Steps Steps2 (made by shake.py). -/
import Derived.Maps.OwnSet
import Derived.DeepKeys4
import Derived.Deep.RegionHeld3
import Derived.Deep.QuietTactic
import Derived.BigQuiet
import Derived.Laws.ResultCell
import Derived.Laws.Rows
import Derived.Deep.RegionLaw
import Derived.Lib.AppendZeros
import Derived.Test.Ytjekpchcbbiohaatb
namespace Go.Proofs.Ytjekpchcbbiohaa
open Go.RowKit Go.ChangeShapes Go.WideShapes Go.ChangeAt
set_option linter.unusedVariables false
set_option linter.unusedSimpArgs false
set_option maxRecDepth 20000

def EnvP (w : World) (p : Addr) (e : Int × List UInt8) : Prop := w.cell? p = some (.int .i64 e.1) ∧ ∃ bv, w.cell? ⟨p.block, p.off + 1, none⟩ = some bv ∧ Bs w bv e.2
def ResP (w : World) (p : Addr) (r : Int × Int) : Prop := w.cell? p = some (.int .i64 r.1) ∧ w.cell? ⟨p.block, p.off + 1, none⟩ = some (.int .i64 r.2)
abbrev EnvK (w : World) : Option Addr → Nat → List (Int × List UInt8) → Prop := RowM w 2 EnvP
abbrev ResK (w : World) : Option Addr → Nat → List (Int × Int) → Prop := RowM w 2 ResP
theorem EnvP.below {w w' : World} {p : Addr} {e : Int × List UInt8} (h : EnvP w p e) (hb : Below w.heap.size w w') (hl : p.block < w.heap.size) : EnvP w' p e := by
  obtain ⟨h1, bv, h2, h3⟩ := h
  exact ⟨cellM hb hl h1, bv, cellM (p := ⟨p.block, p.off + 1, none⟩) hb hl h2, h3.below hb (Nat.le_refl _)⟩
theorem EnvK.below {w w' : World} {A : Option Addr} {c : Nat} {l : List (Int × List UInt8)} (h : EnvK w A c l) (hb : Below w.heap.size w w') : EnvK w' A c l := RowM.below (fun p x hl h => EnvP.below h hb hl) h hb.size
theorem ResK.below {w w' : World} {A : Option Addr} {c : Nat} {l : List (Int × Int)} (h : ResK w A c l) (hb : Below w.heap.size w w') : ResK w' A c l := RowM.below (fun p x hl h => ⟨cellM hb hl h.1, cellM (p := ⟨p.block, p.off + 1, none⟩) hb hl h.2⟩) h hb.size
structure BlkK (w : World) (b : Blk) (A : Option Addr) (c : Nat) (D : Option Addr) (d : Nat) : Prop where
  q : EnvK w A c b.reqs
  r : ResK w D d b.ress
theorem BlkK.below {w w' : World} {b : Blk} {A : Option Addr} {c : Nat} {D : Option Addr} {d : Nat} (h : BlkK w b A c D d) (hb : Below w.heap.size w w') : BlkK w' b A c D d := ⟨h.q.below hb, h.r.below hb⟩
section
variable {H : Type} {enc : TypeId × Value → H} {W : World} {sp : Nat → Bool} {hd : Bool} {base : Nat} {v : Value} {d : DataW H} {ps : List MemPlace}
theorem part_env (n : Nat) (cs : List Value) (x : DataW H × List MemPlace) (p : Addr) (ht : DataW.trod enc Try.prog W 0 sp hd n 45 cs = some x) (hlen : cs.length = 2) (hat : ∀ i, i < 2 → W.cell? (p.add i) = cs[i]?) : ∃ z, EnvP W p z ∧ in64B z.1 := by
  obtain ⟨ys, m, -, -, -, hys, hfs⟩ := DataW.trod_struct Try.underlying45 ht
  match cs, hlen with
  | [c0, c1], _ =>
    match ys, hys with
    | [y0, y1], _ =>
      have k1 : Try.prog.cellsOf 3 = 1 := by kernel_rfl
      have k2 : Try.prog.cellsOf 23 = 1 := by kernel_rfl
      have g0 := hfs 0 _ rfl
      have g1 := hfs 1 _ rfl
      simp [k1, k2] at g0 g1
      obtain ⟨z0, e0, -, w0⟩ := DataW.trod_int Try.underlying3 g0
      obtain ⟨l, hb⟩ := open_bytes g1
      simp at e0
      subst e0
      have e0 := hat 0 (by omega)
      have e1 := hat 1 (by omega)
      exact ⟨(z0, l), ⟨by simpa [Addr.add_zero'] using e0, c1, by simpa [Addr.add_succ'] using e1, hb⟩, inM_of w0⟩
end
end Go.Proofs.Ytjekpchcbbiohaa

namespace Go.Proofs.Ytjekpchcbbiohaa
open Go.RowKit
set_option linter.unusedVariables false
set_option linter.unusedSimpArgs false
set_option maxRecDepth 20000

section
variable {w : World} {g bm : Nat} {f c : Int} {v : Value}

end

/-! the document's -/
section
variable {w : World} {g : Nat} {f c : Int} {v : Value}
end

end Go.Proofs.Ytjekpchcbbiohaa

namespace Go.Proofs.Ytjekpchcbbiohaa
open Go.RowKit Go.Maps
set_option linter.unusedVariables false

end Go.Proofs.Ytjekpchcbbiohaa

namespace Go.Proofs.Ytjekpchcbbiohaa
open Go.RowKit
set_option linter.unusedVariables false
set_option linter.unusedSimpArgs false
set_option maxRecDepth 20000

theorem results_cell2 {P : Program} {fn : Func} {p u : Tmp} {ty : TypeId} (h : fn.results = #[.cell p ty, .tmp u]) (tmps : Array Value) (w : World) (g : Nat) (t : TypeId) (cs : Array Value) (fr : Nat × Nat) (d : TypeDesc)
    (hp : tmps.getD p undef = .pointer (some ⟨g, 0, none⟩)) (hg : w.heap[g]? = some (.cells cs t fr))
    (hu : P.underlying ty = some d) (hd : (match d with | .struct _ | .array _ _ => true | _ => false) = true) (hi : (P.info? ty).map (·.size) = some cs.size) :
    (results fn tmps).run P w = .ok (.tuple #[.agg cs, tmps.getD u undef]) w := by
  rw [results_cell_tmp h, hp]
  simp [asAddr, run_loadVar_row w g t ty cs fr d hg hu hd hi, Result.andThen]
section
variable {w w' : World} {g bm : Nat} {f c : Int} {L : List (Int × List UInt8)}
end

def Ev (w : World) (h : Nat) (x y : Value) : Prop := w.heap[h]? = some (.cells #[x, y] 45 (0, 0))
theorem Ev.open {w : World} {h : Nat} {x y : Value} (he : Ev w h x y) : w.cell? ⟨h, 0, none⟩ = some x ∧ w.cell? ⟨h, 1, none⟩ = some y ∧ w.frozen? ⟨h, 0, none⟩ = false ∧ w.frozen? ⟨h, 1, none⟩ = false ∧ h < w.heap.size :=
  ⟨(cell_of_row w h 0 _ _ (0, 0) he).trans rfl, (cell_of_row w h 1 _ _ (0, 0) he).trans rfl, by have he' : w.heap[h]? = _ := he; simp [World.frozen?, he'], by have he' : w.heap[h]? = _ := he; simp [World.frozen?, he'], (Array.getElem?_eq_some_iff.1 he).1⟩
theorem Ev.below {w w' : World} {h : Nat} {x y : Value} (he : Ev w h x y) (hb : Below w.heap.size w w') : Ev w' h x y := (hb.block h he.open.2.2.2.2).trans he
theorem Ev.kept {w w' : World} {h : Nat} {x y : Value} {row : Option Nat} (he : Ev w h x y) (hg : w.grownBy w' row) (hne : some h ≠ row) : Ev w' h x y := (hg.block h he.open.2.2.2.2 hne).trans he



def flatE (xs : List (Int × Value)) : List Value := xs.flatMap fun p => [.int .i64 p.1, p.2]
theorem flatE_cons (p : Int × Value) (xs : List (Int × Value)) : flatE (p :: xs) = .int .i64 p.1 :: p.2 :: flatE xs := by simp [flatE]
theorem flatE_length (xs : List (Int × Value)) : (flatE xs).length = xs.length * 2 := by
  induction xs with
  | nil => rfl
  | cons p xs ih => rw [flatE_cons, List.length_cons, List.length_cons, List.length_cons, ih]; omega
theorem flatE_get (xs : List (Int × Value)) : ∀ (k : Nat) (hk : k < xs.length), (flatE xs)[k * 2]? = some (.int .i64 xs[k].1) ∧ (flatE xs)[k * 2 + 1]? = some xs[k].2 := by
  induction xs with
  | nil => intro k hk; simp at hk
  | cons p xs ih =>
    intro k hk
    rw [flatE_cons]
    match k with
    | 0 => simp
    | k + 1 =>
      have := ih k (by simpa using hk)
      rw [show (k + 1) * 2 = k * 2 + 1 + 1 by omega]
      simpa using this

def Es (w : World) (v : Value) (xs : List (Int × Value)) : Prop :=
  ∃ A c, v = .slice A xs.length c ∧ xs.length ≤ c ∧ c ≤ maxLen ∧ (A = none → c = 0) ∧ (xs ≠ [] → ∃ ad, A = some ad ∧ ad.block < w.heap.size ∧ ∀ k (hk : k < xs.length), w.cell? (ad.add (k * 2)) = some (.int .i64 xs[k].1) ∧ w.cell? ⟨(ad.add (k * 2)).block, (ad.add (k * 2)).off + 1, none⟩ = some xs[k].2)

theorem Es.of_own {w : World} {base : Nat} {v : Value} {n : Nat} {xs : List (Int × Value)} (h : w.ownsRow base 45 2 v n (flatE xs)) : Es w v xs := by
  have hl := h.1
  rw [flatE_length] at hl
  have hn : n = xs.length := by omega
  subst hn
  rcases h.2 with ⟨rfl, h0⟩ | ⟨g, cap, cur, rfl, _, hg, hc, hm, _⟩
  · have : xs = [] := List.eq_nil_of_length_eq_zero h0
    subst this
    exact ⟨none, 0, rfl, Nat.le_refl _, Nat.zero_le _, fun _ => rfl, fun h => absurd rfl h⟩
  · refine ⟨_, cap, rfl, hc, hm, (by intro h0; cases h0), fun _ => ⟨_, rfl, (Array.getElem?_eq_some_iff.1 hg).1, fun k hk => ?_⟩⟩
    obtain ⟨h1, h2⟩ := flatE_get xs k hk
    refine ⟨h.cells rfl _ _ h1, ?_⟩
    have h3 := h.cells rfl _ _ h2
    rwa [Addr.add_lit] at h3 ⊢

theorem Bs.keep {w w' : World} {v : Value} {l : List UInt8} (h : Bs w v l) (hs : w.heap.size ≤ w'.heap.size) (hk : l ≠ [] → ∀ k, v.ownBlock = some k → w'.heap[k]? = w.heap[k]?) : Bs w' v l := by
  obtain ⟨A, c, hv, hc, hm, hn, hx⟩ := h
  refine ⟨A, c, hv, hc, hm, hn, fun he => ?_⟩
  obtain ⟨ad, ha, hl, hr⟩ := hx he
  subst ha hv
  have hn' := hk (by rintro rfl; simp at he) ad.block rfl
  exact ⟨ad, rfl, Nat.lt_of_lt_of_le hl hs, fun j u hj => (World.cell?_of_block (by rw [block_add]; exact hn')).trans (hr j u hj)⟩
theorem Ty.keep {w w' : World} {v : Value} {l : List UInt8} (h : Ty w v l) (hk : l ≠ [] → ∀ k, v.ownBlock = some k → w'.heap[k]? = w.heap[k]?) : Ty w' v l := by
  intro hne k hk'
  obtain ⟨cs, fr, hg⟩ := h hne k hk'
  exact ⟨cs, fr, (hk hne k hk').trans hg⟩

abbrev Tri := Int × List UInt8 × Value
section
variable {w w' : World} {g : Nat} {f c : Int} {v : Value} {E : List Tri} {S : Nat → Prop}
end



structure Off (S : Nat → Prop) (w w' : World) : Prop where
  os : w'.os = w.os
  tape : w'.tape = w.tape
  output : w'.output = w.output
  size : w.heap.size ≤ w'.heap.size
  block : ∀ k, k < w.heap.size → ¬ S k → w'.heap[k]? = w.heap[k]?
theorem Off.trans {S : Nat → Prop} {w w1 w' : World} (h : Off S w w1) (h1 : Off S w1 w') : Off S w w' :=
  ⟨h1.os.trans h.os, h1.tape.trans h.tape, h1.output.trans h.output, Nat.le_trans h.size h1.size, fun k hk hn => (h1.block k (Nat.lt_of_lt_of_le hk h.size) hn).trans (h.block k hk hn)⟩

abbrev KeptC (C C' : Nat → Prop) (w w' : World) : Prop := ∀ k, k < w.heap.size → C k → w'.heap[k]? = w.heap[k]? ∧ C' k
def RowC {α : Type} (C : Nat → Prop) (w : World) (K : Nat) (R : World → Addr → α → Prop) (A : Option Addr) (c : Nat) (l : List α) : Prop :=
  RowM w K R A c l ∧ (l ≠ [] → ∀ ad, A = some ad → C ad.block)
theorem RowC.keep {α : Type} {C C' : Nat → Prop} {w w' : World} {K : Nat} {R R' : World → Addr → α → Prop} {A : Option Addr} {c : Nat} {l : List α} (h : RowC C w K R A c l) (hz : w.heap.size ≤ w'.heap.size) (hk : KeptC C C' w w')
    (hR : ∀ (p : Addr) (x : α), p.block < w.heap.size → C p.block → R w p x → R' w' p x) : RowC C' w' K R' A c l := by
  obtain ⟨⟨h1, h2, h3, h4⟩, h5⟩ := h
  refine ⟨⟨h1, h2, h3, fun j hj => ?_⟩, fun hne ad ha => ?_⟩
  · obtain ⟨ad, e1, e2, e3⟩ := h4 j hj
    have hc := h5 (by intro e; rw [e] at hj; exact absurd hj (Nat.not_lt_zero _)) ad e1
    exact ⟨ad, e1, Nat.lt_of_lt_of_le e2 hz, hR _ _ (by rw [block_add]; exact e2) (by rw [block_add]; exact hc) e3⟩
  · obtain ⟨x, t, rfl⟩ := List.exists_cons_of_ne_nil hne
    obtain ⟨ad', e1, e2, -⟩ := h4 0 (by simp)
    rw [ha] at e1
    injection e1 with e1
    subst e1
    exact (hk _ e2 (h5 hne _ ha)).2
def EnvC (C : Nat → Prop) (w : World) (p : Addr) (e : Int × List UInt8) : Prop :=
  w.cell? p = some (.int .i64 e.1) ∧ ∃ bv, w.cell? ⟨p.block, p.off + 1, none⟩ = some bv ∧ Bs w bv e.2 ∧ (e.2 ≠ [] → ∀ k, bv.ownBlock = some k → C k)
theorem EnvC.p {C : Nat → Prop} {w : World} {p : Addr} {e : Int × List UInt8} (h : EnvC C w p e) : EnvP w p e := by
  obtain ⟨h1, bv, h2, h3, -⟩ := h
  exact ⟨h1, bv, h2, h3⟩
theorem EnvC.keep {C C' : Nat → Prop} {w w' : World} {p : Addr} {e : Int × List UInt8} (h : EnvC C w p e) (hz : w.heap.size ≤ w'.heap.size) (hk : KeptC C C' w w') (hl : p.block < w.heap.size) (hp : C p.block) : EnvC C' w' p e := by
  obtain ⟨h1, bv, h2, h3, h4⟩ := h
  refine ⟨(World.cell?_of_block (hk _ hl hp).1).trans h1, bv, (World.cell?_of_block (a := ⟨p.block, p.off + 1, none⟩) (hk _ hl hp).1).trans h2, h3.keep hz fun hne k e => (hk k (h3.lt hne k e) (h4 hne k e)).1, fun hne k e => (hk k (h3.lt hne k e) (h4 hne k e)).2⟩
structure BlkC (C : Nat → Prop) (w : World) (b : Blk) (A : Option Addr) (c : Nat) (D : Option Addr) (d : Nat) : Prop where
  q : RowC C w 2 (EnvC C) A c b.reqs
  r : RowC C w 2 ResP D d b.ress
theorem BlkC.keep {C C' : Nat → Prop} {w w' : World} {b : Blk} {A : Option Addr} {c : Nat} {D : Option Addr} {d : Nat} (h : BlkC C w b A c D d) (hz : w.heap.size ≤ w'.heap.size) (hk : KeptC C C' w w') : BlkC C' w' b A c D d :=
  ⟨h.q.keep hz hk fun p x hl hp hx => hx.keep hz hk hl hp, h.r.keep hz hk fun p x hl hp hx => ⟨(World.cell?_of_block (hk _ hl hp).1).trans hx.1, (World.cell?_of_block (a := ⟨p.block, p.off + 1, none⟩) (hk _ hl hp).1).trans hx.2⟩⟩
theorem RowM.to {α : Type} {w : World} {K : Nat} {R R' : World → Addr → α → Prop} {A : Option Addr} {c : Nat} {l : List α} (h : RowM w K R A c l) (hR : ∀ p x, R w p x → R' w p x) : RowM w K R' A c l := by
  obtain ⟨h1, h2, h3, h4⟩ := h
  refine ⟨h1, h2, h3, fun j hj => ?_⟩
  obtain ⟨ad, e1, e2, e3⟩ := h4 j hj
  exact ⟨ad, e1, e2, hR _ _ e3⟩
theorem BlkC.k {C : Nat → Prop} {w : World} {b : Blk} {A : Option Addr} {c : Nat} {D : Option Addr} {d : Nat} (h : BlkC C w b A c D d) : BlkK w b A c D d := ⟨h.q.1.to fun _ _ => EnvC.p, h.r.1⟩
structure KB where
  b : Blk
  A : Option Addr
  c : Nat
  D : Option Addr
  d : Nat
section
variable {cs : Ldg → Value → Array Value} {t : TypeId} {S : Nat → Prop} {w w' : World} {g : Nat} {L : Ldg} {v : Value} {qs : List KB}
end

theorem Grow_nil (n : Nat) (w : World) (hn : n ≤ 1000000000) : Calls Try.prog 63 #[.slice none 0 0, .int .i64 n] w (fun e w' => ∃ v, e = .returned v ∧ w'.ownsRow w.heap.size 5 1 v 0 [] ∧ Below w.heap.size w w') := by
  obtain ⟨i0, hi, hz0, hz1, hz2⟩ := info_parts u8info
  have hw0 : IntKind.i64.wrap ((n : Int) - (0 - 0)) = (n : Int) := by rw [IntKind.wrap_i64]; omega
  have hneg : ¬ (n : Int) < 0 := by omega
  by_cases h0 : n = 0
  · subst h0
    go_enter Try.func63, Try.ntmps63
    go_wp2
    go_ret
    exact ⟨_, rfl, World.ownsRow_nil _ _ _ _, Below.refl _ _⟩
  · have hpos : (0 : Int) < (n : Int) := by omega
    have hrun := fun ty => Lib.run_append_nil_zeros (P := Try.prog) w 23 3 ty 5 i0 (.int .u8 0) .i64 .i64 Try.underlying23 Try.underlying3 hi hz0 n (by omega) (by rw [hz1]; decide) (by omega) (by rw [hz2]; omega)
    have hcap := grownCap_ge w n 0 5
    have hcm := grownCap_le_maxLen w n 0 5 (by unfold maxLen; omega)
    have HRUN := Lib.hid hrun
    clear hrun
    generalize hgc : grownCap w n 0 5 = gc at *
    have hown : (w.drew.alloc (.cells (Builtin.zeroCells (Value.int .u8 0).cells n ++ Builtin.zeroCells (Value.int .u8 0).cells (gc - n)) 5)).ownsRow w.heap.size 5 1 (.slice (some ⟨w.heap.size, 0, none⟩) 0 gc) 0 [] := by
      refine ⟨rfl, .inr ⟨w.heap.size, gc, _, rfl, Nat.le_refl _, heap_alloc_new w.drew _, Nat.zero_le _, hcm, ?_, by simp⟩⟩
      simp [Builtin.zeroCells, Value.cells]
      omega
    have HOWN := Lib.hid hown
    have HBB := Lib.hid ((Below.refl w.heap.size w).drew.alloc (Nat.le_refl _) (.cells (Builtin.zeroCells (Value.int .u8 0).cells n ++ Builtin.zeroCells (Value.int .u8 0).cells (gc - n)) 5))
    clear hown
    go_enter Try.func63, Try.ntmps63
    go_wp2_with (at_builtin; refine Lib.wpList_append_run _ rfl _ _ _ _ rfl _ _ rfl rfl _ _ (HRUN.out _) ?_)
    go_ret
    exact ⟨_, rfl, HOWN.out, HBB.out⟩
theorem flat_take (ls : List (List UInt8)) (k : Nat) (hk : k < ls.length) : (ls.take (k + 1)).flatten = (ls.take k).flatten ++ ls[k] := by
  rw [List.take_succ_eq_append_getElem hk, List.flatten_append]
  simp
theorem flat_take_le (ls : List (List UInt8)) (k : Nat) : (ls.take k).flatten.length ≤ ls.flatten.length := by
  have h : ls.flatten = (ls.take k).flatten ++ (ls.drop k).flatten := by rw [← List.flatten_append, List.take_append_drop]
  rw [h, List.length_append]; omega
set_option maxHeartbeats 2000000 in
theorem Concat_any (v : Value) (ls : List (List UInt8)) (w : World) (hv : Bss w v ls) (hs : ls.flatten.length ≤ 1000000000) : Calls Try.prog 32 #[v] w (Puts w ls.flatten) := by
  obtain ⟨i0, hi, hz0, hz1, hz2⟩ := info_parts u8info
  obtain ⟨A, c, rfl, hc, hm, hx⟩ := hv.open
  unfold maxLen at hm
  have hlen : ls.length ≤ 9223372036854775807 := by omega
  have HX := Lib.hid hx
  have hP : ∃ P : Nat → List UInt8, P 0 = [] ∧ P ls.length = ls.flatten ∧ (∀ (k : Nat) (hk : k < ls.length), P (k + 1) = P k ++ ls[k]) ∧ ∀ k, (P k).length ≤ ls.flatten.length :=
    ⟨fun k => (ls.take k).flatten, rfl, by simp, flat_take ls, flat_take_le ls⟩
  obtain ⟨P, p0, p1, p2, p3⟩ := hP
  have HG := Lib.hid (Grow_nil ls.flatten.length w hs)
  generalize ls.flatten = fl at *
  have HS := Lib.hid hs
  have HT := Lib.hid p2
  have HTL := Lib.hid p3
  have P0 := Lib.hid p0
  have P1 := Lib.hid p1
  clear hx hv hs hc hm p0 p1 p2 p3
  go_enter Try.func32, Try.ntmps32
  go_wp2
  go_loop [3, 11] (fun s i => ∃ k : Nat, k ≤ ls.length ∧ i = .int .i64 k ∧ s = .int .i64 ((P k).length : Nat)) (fun _ i => ls.length - (intOf i).toNat)
  case atStart => exact ⟨0, Nat.zero_le _, rfl, by rw [P0.out]; rfl⟩
  case round =>
    obtain ⟨k, hk, rfl, rfl⟩ := hrel
    by_cases hlt : k < ls.length
    · have hltI : (k : Int) < (ls.length : Int) := by omega
      obtain ⟨ad, x, rfl, hbl, hcell, hbx⟩ := HX.out k hlt
      obtain ⟨A2, c2, rfl, -, -, -, -⟩ := hbx.open
      clear hbx
      have ht := HT.out k hlt
      have hle := HTL.out (k + 1)
      have hl2 : (P (k + 1)).length = (P k).length + ls[k].length := by rw [ht, List.length_append]
      have hs2 := HS.out
      have hw : IntKind.i64.wrap ((((P k).length : Nat) : Int) + ((ls[k].length : Nat) : Int)) = (((P (k + 1)).length : Nat) : Int) := by
        rw [IntKind.wrap_i64]; omega
      have hnn : ¬ (((P (k + 1)).length : Nat) : Int) < 0 := by omega
      clear ht hle hs2 hl2
      generalize ls[k].length = m at *
      generalize hqq : (P (k + 1)).length = q at *
      generalize hpk : (P k).length = pk at *
      go_wp2
      go_round
      case rel => exact ⟨k + 1, by omega, by go_num, by rw [hqq]⟩
      case measure => simp [intOf]; omega
    · obtain rfl : k = ls.length := by omega
      have hltI : ¬ (ls.length : Int) < (ls.length : Int) := by omega
      rw [P1.out]
      go_wp2_with fail
      refine HG.out.mono ?_
      rintro _ w1 ⟨v1, rfl, hown1, hb1⟩
      have HO1 := Lib.hid hown1
      have HB1 := Lib.hid hb1
      clear hown1 hb1 HG
      go_wp2
      go_loopw [6, 27] (fun b i wr => ∃ k : Nat, k ≤ ls.length ∧ i = .int .i64 k ∧ wr.ownsRow w.heap.size 5 1 b (P k).length ((P k).map bc) ∧ Below w.heap.size w wr) (fun _ i _ => ls.length - (intOf i).toNat)
      case atStart => exact ⟨0, Nat.zero_le _, rfl, by rw [P0.out]; exact HO1.out, HB1.out⟩
      case round =>
        obtain ⟨k, hk, rfl, hown, hb⟩ := hrel
        have HO := Lib.hid hown
        have HB := Lib.hid hb
        clear hown hb HO1 HB1
        by_cases hlt : k < ls.length
        · have hltI : (k : Int) < (ls.length : Int) := by omega
          obtain ⟨ad, x, rfl, hbl, hcell, hbx⟩ := HX.out k hlt
          have hcell2 := (HB.out.cell (p := ad.add k) (by rw [block_add]; exact hbl)).trans hcell
          have HV := Lib.hid (Rd.below hbx HB.out (Nat.le_refl _))
          have ht := HT.out k hlt
          have HTT := Lib.hid ht
          have hle := HTL.out (k + 1)
          rw [ht, List.length_append] at hle
          have hs2 := HS.out
          have hq1 : (P k).length + (ls[k].map bc).length ≤ maxLen := by rw [List.length_map]; unfold maxLen; omega
          have hq2 : ((P k).length + (ls[k].map bc).length) * 1 ≤ 140737488355328 := by rw [List.length_map]; omega
          have HQ := Lib.hid (And.intro hq1 hq2)
          clear ht hle hs2 hbx hcell hq1 hq2
          go_wp2_with (at_builtin; refine wpList_append_rd _ rfl _ _ 23 rfl w.heap.size 5 i0 (.int .u8 0) 1 Try.underlying23 hi hz0 hz1 hz2 rfl _ _ _ rfl HO.out _ _ rfl HV.out (bc_one _) HQ.out.1 HQ.out.2 HB.out.size ?_; intro v5 w5 hown5 hgr5; have HB5 := Lib.hid (HB.out.grown hgr5 HB.out.size (fun k hk => (HO.out.lt k hk).1)); rw [← List.map_append, List.length_map, ← List.length_append, ← HTT.out] at hown5)
          go_roundw
          case rel => exact ⟨k + 1, by omega, by go_num, hown5, HB5.out⟩
          case measure => simp [intOf]; omega
        · obtain rfl : k = ls.length := by omega
          have hltI : ¬ (ls.length : Int) < (ls.length : Int) := by omega
          rw [P1.out] at HO
          go_wp2
          go_ret
          exact ⟨_, rfl, HO.out, HB.out⟩
theorem own_bs {w : World} {B : Nat} {v : Value} {n : Nat} {l : List UInt8} (h : w.ownsRow B 5 1 v n (l.map bc)) : Bs w v l := Rd.of_own h
def AllBs (W : World) : List Value → List (List UInt8) → Prop
  | [], [] => True
  | x :: vs, l :: ls => Bs W x l ∧ AllBs W vs ls
  | _, _ => False
theorem AllBs.len {W : World} : ∀ {vs : List Value} {ls : List (List UInt8)}, AllBs W vs ls → vs.length = ls.length
  | [], [], _ => rfl
  | x :: vs, l :: ls, h => by rw [List.length_cons, List.length_cons, AllBs.len h.2]
theorem AllBs.at {W : World} : ∀ {vs : List Value} {ls : List (List UInt8)}, AllBs W vs ls → ∀ (k : Nat) (x : Value) (l : List UInt8), vs[k]? = some x → ls[k]? = some l → Bs W x l
  | x :: vs, l :: ls, h, 0, y, m, h1, h2 => by
    injection h1 with h1
    injection h2 with h2
    subst h1 h2
    exact h.1
  | x :: vs, l :: ls, h, k + 1, y, m, h1, h2 => AllBs.at h.2 k y m h1 h2

theorem step_conv {P : Program} {w : World} {ops : Array Oper} {o : Oper} {a : Act} {K : Act → World → Prop} {Q : Exit → Act → World → Prop} {E : Prop}
    (hgd : o.guard = none) (x : Operand) (src dst : TypeId) (ho : o.op = .convert src dst x) (u : TypeDesc) (hs : P.underlying src = some u) (hd : P.underlying dst = some (.slice 5)) (he : P.underlying 5 = some (.int .u8))
    (l : List UInt8) (hx : a.eval x = .string (strB l)) (hl : l.length ≤ maxLen)
    (h : ∀ A c w', Bs w' (.slice A l.length c) l → Below w.heap.size w w' → K (a.put o.dst (.slice A l.length c)) w') :
    if Region.wanted o (yielded ops a.tmps) = true then Oper.wp P o a w K Q else E := by
  have hw : Region.wanted o (yielded ops a.tmps) = true := by simp [Region.wanted, hgd]
  rw [if_pos hw]
  have hrun := Lib.run_convert_string_bytes (P := P) w src dst 5 (strB l) hs hd he
  rw [strB_size] at hrun
  unfold Oper.wp execOp
  simp only [ho, hx, hrun, Sem.run_bind, Sem.run_pure, Result.andThen_ok]
  exact h _ _ _ (bytesWorld_bsN w l hl _ _ rfl rfl) (bytesWorld_below w 5 (strB l))
theorem step_built {P : Program} {w : World} {ops : Array Oper} {o : Oper} {a : Act} {K : Act → World → Prop} {Q : Exit → Act → World → Prop} {E : Prop}
    (hgd : o.guard = none) (t : TypeId) (n : Nat) (ps : Array (Nat × Operand)) (ho : o.op = .buildSlice t n ps) (cs : Array Value) (e : TypeId)
    (hrun : ∀ W, (Instr.buildSlice t n (ps.map fun (i, x) => (i, a.eval x))).run P W = .ok (.slice (some ⟨W.heap.size, 0, none⟩) n n) (W.alloc (.cells cs e)))
    (h : ∀ g w', w'.heap[g]? = some (.cells cs e (0, 0)) → Below w.heap.size w w' → w.heap.size ≤ g → K (a.put o.dst (.slice (some ⟨g, 0, none⟩) n n)) w') :
    if Region.wanted o (yielded ops a.tmps) = true then Oper.wp P o a w K Q else E := by
  have hw : Region.wanted o (yielded ops a.tmps) = true := by simp [Region.wanted, hgd]
  rw [if_pos hw]
  unfold Oper.wp execOp
  simp only [ho, hrun, Sem.run_bind, Sem.run_pure, Result.andThen_ok]
  exact h _ _ (heap_alloc_new w _) ((Below.refl _ _).alloc (Nat.le_refl _) _) (Nat.le_refl _)
theorem wpAnyH_norm {P : Program} {md : Region.Mode} {ops : Array Oper} {Q : Exit → Act → World → Prop} {S : World → Prop} {fuel fuel' : Nat} {listed listed' : Array Bool} {a : Act} {w : World} (h1 : fuel = fuel') (h2 : listed = listed') (h : wpAnyH P md ops Q S fuel' listed' a w) : wpAnyH P md ops Q S fuel listed a w := by
  subst h1 h2
  exact h
theorem wpAnyH_name {P : Program} {md : Region.Mode} {ops : Array Oper} {Q : Exit → Act → World → Prop} {S : World → Prop} {fuel : Nat} {listed : Array Bool} {a : Act} {w : World} (h : ∀ G : Nat → Array Bool → Act → World → Prop, (∀ n l a w, G n l a w = wpAnyH P md ops Q S n l a w) → G fuel listed a w) : wpAnyH P md ops Q S fuel listed a w := h _ (fun _ _ _ _ => rfl)
theorem heapB {w w' : World} {g : Nat} {o : Obj} (h : w.heap[g]? = some o) (hb : Below w.heap.size w w') : w'.heap[g]? = some o := (hb.block g (Array.getElem?_eq_some_iff.1 h).1).trans h
theorem bss_heap {W : World} {g : Nat} {vs : List Value} {t : TypeId} (hg : W.heap[g]? = some (.cells vs.toArray t (0, 0))) (ls : List (List UInt8)) (n : Nat) (hn : n = ls.length) (hm : n ≤ 1000) (h : AllBs W vs ls) : Bss W (.slice (some ⟨g, 0, none⟩) n n) ls := by
  have hl := h.len
  refine ⟨vs, ⟨some ⟨g, 0, none⟩, n, by rw [hl, hn], by omega, by unfold maxLen; omega, (fun h => by cases h), fun _ => ⟨_, rfl, (Array.getElem?_eq_some_iff.1 hg).1, fun j u hj => ?_⟩⟩, hl, fun k x l hx hy => h.at k x l hx hy⟩
  rw [Addr.add_lit, Nat.zero_add]
  exact (cell_of_row W g j _ t (0, 0) hg).trans (by simpa using hj)

theorem step_store {w : World} {ops : Array Oper} {o : Oper} {a : Act} {K : Act → World → Prop} {Q : Exit → Act → World → Prop} {E : Prop}
    (hgd : o.guard = none) (ty : TypeId) (x y : Operand) (ho : o.op = .store ty x y)
    (b : Nat) (cells cur : Array Value) (hx : a.eval x = .pointer (some ⟨b, 0, none⟩)) (hy : a.eval y = .agg cells)
    (hh : w.heap[b]? = some (.cells cur ty (0, 0))) (hs : cur.size = cells.size) (hi : (Try.prog.info? ty).map (·.size) = some cells.size) (h1 : ∀ u ∈ cells.toList, u.oneCell' = true)
    (h : ∀ w', w'.heap[b]? = some (.cells cells ty (0, 0)) → Only b w w' → K (a.put o.dst undef) w') :
    if Region.wanted o (yielded ops a.tmps) = true then Oper.wp Try.prog o a w K Q else E := by
  have hw : Region.wanted o (yielded ops a.tmps) = true := by simp [Region.wanted, hgd]
  rw [if_pos hw]
  exact wp_store_row ty x y ho b cells cur hx hy hh hs hi (by rw [Array.all_eq_true']; exact fun u hu => h1 u (by simpa using hu)) (h _ (setRow_heap w b cur cells ty (0, 0) hh) (only_setRow w b cells))
theorem onlyHeap {w w' : World} {b g : Nat} {o : Obj} (h : Only b w w') (hg : w.heap[g]? = some o) (hne : g ≠ b) : w'.heap[g]? = some o := (h.block g (Array.getElem?_eq_some_iff.1 hg).1 (by intro e; injection e with e; exact hne e)).trans hg
theorem onlyBelow {a w w' : World} {b B : Nat} (h : Below B a w) (ho : Only b w w') (hb : B ≤ b) (hB : B ≤ a.heap.size) : Below B a w' := h.trans (Only.to_below ho (Nat.le_trans hB h.size) hb)

end Go.Proofs.Ytjekpchcbbiohaa
