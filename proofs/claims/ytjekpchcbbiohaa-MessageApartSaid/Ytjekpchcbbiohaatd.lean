/- td: MLay TLeaf MRoot MWay MPath MRPath BPut MChk TLaws TLaws2 TLaws3 TLaws4 MChk2 BLeaf BRows MFew MRChk MAw MLaws BHead BDig BPutB BGet1 BGet2 BGet3 GShp GMem GChk GPut GBat BFew GBat2 GSim GFew GPutL (made by shake.py). -/
import Derived.Shelf.Small.Bits
import Derived.Shelf.SlicesQ.Reverse
import Derived.Lib.SlBytesConst
import Derived.WalkMore
import Derived.Deep.Cut
import Derived.Deep.OwnRows
import Derived.Deep.MidRow
import Derived.BigFrame
import Derived.Test.Ytjekpchcbbiohaatc
namespace Go.Proofs.Ytjekpchcbbiohaa
open Go.RowKit
set_option linter.unusedVariables false
set_option linter.unusedSimpArgs false
set_option maxRecDepth 20000

theorem tk {P : Program} {ops : Array Oper} {Q : Exit → Act → World → Prop} {md : Region.Mode} {S : World → Prop} (i : Nat) {oi : Oper} {v : Value} {fuel : Nat} {listed : Array Bool} {a : Act} {w : World} (h : wpAnyH P md ops Q S fuel (listed.setIfInBounds i true) (a.put oi.dst v) w) (hi : ops[i]? = some oi := by (simp only [gA, gB, gC]; rfl)) (hs : Region.noSelect ops = true := by kernel_rfl) (hf : Region.free md ops listed i = true := by kernel_rfl) (hr : (Region.ready md ops listed).contains i = true := by kernel_rfl) (hQ : ∀ c a w, Q (.panic c) (a.put oi.dst v) w → Q (.panic c) a w := by exact fun _ _ _ h => h) (hw : Region.wanted oi (yielded ops a.tmps) = true := by rfl) (hy : ∀ w, S w → (execOp a.eval oi).run P w = .ok (.value v) w := by (intro w z; (try dsimp only at z); go_simp; try with_reducible rfl)) (hS : S w := by assumption) : wpAnyH P md ops Q S (fuel + 1) listed a w := wpAnyH_take hi hs hf hr hQ (Or.inl ⟨hw, hy⟩) hS h
theorem sk {P : Program} {ops : Array Oper} {Q : Exit → Act → World → Prop} {md : Region.Mode} {S : World → Prop} (i : Nat) {oi : Oper} {fuel : Nat} {listed : Array Bool} {a : Act} {w : World} (h : wpAnyH P md ops Q S fuel (listed.setIfInBounds i true) (a.put oi.dst undef) w) (hi : ops[i]? = some oi := by (simp only [gA, gB, gC]; rfl)) (hs : Region.noSelect ops = true := by kernel_rfl) (hf : Region.free md ops listed i = true := by kernel_rfl) (hr : (Region.ready md ops listed).contains i = true := by kernel_rfl) (hQ : ∀ c a w, Q (.panic c) (a.put oi.dst undef) w → Q (.panic c) a w := by exact fun _ _ _ h => h) (hw : Region.wanted oi (yielded ops a.tmps) = false := by rfl) (hS : S w := by assumption) : wpAnyH P md ops Q S (fuel + 1) listed a w := wpAnyH_take hi hs hf hr hQ (Or.inr ⟨hw, rfl⟩) hS h

end Go.Proofs.Ytjekpchcbbiohaa

namespace Go.Proofs.Ytjekpchcbbiohaa
open Go.RowKit Go.Shelf
set_option linter.unusedVariables false
set_option linter.unusedSimpArgs false
set_option maxRecDepth 20000

end Go.Proofs.Ytjekpchcbbiohaa

namespace Go.Proofs.Ytjekpchcbbiohaa
open Go.RowKit
set_option linter.unusedVariables false
set_option linter.unusedSimpArgs false
set_option maxRecDepth 20000

theorem Bss.one {w : World} {v : Value} {l : List UInt8} (h : Bs w v l) (t : TypeId) : Bss (w.alloc (.cells #[v] t)) (.slice (some ⟨w.heap.size, 0, none⟩) 1 1) [l] := by
  refine ⟨[v], Rd.one w v t, rfl, fun k x m hx hm => ?_⟩
  have hk : k < [v].length := (List.getElem?_eq_some_iff.1 hx).1
  simp at hk
  subst hk
  simp at hx hm
  subst hx hm
  exact h.below ((Below.refl _ _).alloc (Nat.le_refl _) _) (Nat.le_refl _)
theorem Rd.two (w : World) (x y : Value) (t : TypeId) : Rd (w.alloc (.cells #[x, y] t)) (.slice (some ⟨w.heap.size, 0, none⟩) 2 2) [x, y] := by
  refine ⟨_, 2, rfl, Nat.le_refl _, by unfold maxLen; omega, (by intro h; cases h), fun _ => ⟨_, rfl, by simp, fun j u hj => ?_⟩⟩
  rw [Addr.add_lit, Nat.zero_add, cell_of_row _ _ j _ t (0, 0) (heap_alloc_new w _)]
  simpa using hj
theorem Bss.two {w : World} {v y : Value} {l m : List UInt8} (h : Bs w v l) (h2 : Bs w y m) (t : TypeId) : Bss (w.alloc (.cells #[v, y] t)) (.slice (some ⟨w.heap.size, 0, none⟩) 2 2) [l, m] := by
  refine ⟨[v, y], Rd.two w v y t, rfl, fun k x z hx hz => ?_⟩
  have hk : k < [v, y].length := (List.getElem?_eq_some_iff.1 hx).1
  simp at hk
  obtain rfl | rfl : k = 0 ∨ k = 1 := by omega
  · simp at hx hz
    subst hx hz
    exact h.below ((Below.refl _ _).alloc (Nat.le_refl _) _) (Nat.le_refl _)
  · simp at hx hz
    subst hx hz
    exact h2.below ((Below.refl _ _).alloc (Nat.le_refl _) _) (Nat.le_refl _)

theorem bel2M {a b c : World} (h : Below a.heap.size a b) (h2 : Below b.heap.size b c) : Below a.heap.size a c := h.trans (h2.mono h.size)

end Go.Proofs.Ytjekpchcbbiohaa

namespace Go.Proofs.Ytjekpchcbbiohaa
open Go.RowKit
open Go.Sort (putRowK HoldsK holdsK_putRowK holdsK_ahead size_flatK get_flatK)
set_option linter.unusedVariables false
set_option linter.unusedSimpArgs false
set_option maxRecDepth 20000

theorem rowMs_new (w : World) (cs : Array Value) (t : TypeId) (m size : Nat) (h : cs.size = m * size) (c : Nat) (hm : 0 < m) : RowMs (w.alloc (.cells cs t)) size (.slice (some ⟨w.heap.size, 0, none⟩) m c) m cs.toList := by
  refine ⟨_, _, rfl, by simpa using h, (by intro e; cases e), fun a ha j u hj => ?_⟩
  injection ha with ha
  subst ha
  rw [Addr.add_lit, Nat.zero_add, cell_of_row _ _ j _ t (0, 0) (heap_alloc_new w _)]
  simpa using hj
end Go.Proofs.Ytjekpchcbbiohaa

namespace Go.Proofs.Ytjekpchcbbiohaa
open Go.RowKit
set_option linter.unusedVariables false
set_option linter.unusedSimpArgs false
set_option maxRecDepth 20000

theorem own_belowM {B n size : Nat} {e : TypeId} {w w' : World} {v : Value} {xs : List Value} (h : w.ownsRow B e size v n xs) (hb : Below w.heap.size w w') : w'.ownsRow B e size v n xs :=
  h.kept (below_grown hb none) (by cases h : v.ownBlock <;> simp)





structure PB (p : List (Bool × List UInt8)) : Prop where
  n : p.length ≤ 100
  d : ∀ s ∈ p, s.2.length ≤ 20000

def Yes (w : World) (e : Ending) (w' : World) : Prop := e = .returned (.bool true) ∧ Below w.heap.size w w'









theorem cellB {w w' : World} {p : Addr} {x : Value} (h : w.cell? p = some x) (hb : Below w.heap.size w w') : w'.cell? p = some x := cellM hb (World.block_lt_of_cell? _ _ h) h
theorem alloc1B (W : World) (o : Obj) : Below W.heap.size W (W.alloc o) := (Below.refl _ _).alloc (Nat.le_refl _) o
theorem rowCell {W : World} {b : Nat} {cs : Array Value} {t : TypeId} (h : W.heap[b]? = some (.cells cs t (0, 0))) (j : Nat) (x : Value) (hx : cs[j]? = some x) : W.cell? ⟨b, j, none⟩ = some x := (cell_of_row W b j cs t (0, 0) h).trans hx
theorem box2B (w : World) (cs ds : Array Value) (t u : TypeId) : ((w.alloc (.cells cs t)).alloc (.cells ds u)).heap[w.heap.size]? = some (.cells cs t (0, 0)) ∧ ((w.alloc (.cells cs t)).alloc (.cells ds u)).heap[w.heap.size + 1]? = some (.cells ds u (0, 0)) ∧
    Below w.heap.size w ((w.alloc (.cells cs t)).alloc (.cells ds u)) :=
  ⟨by rw [Below.heap_alloc _ _ _ (by simp)]; exact heap_alloc_new w _, by have := heap_alloc_new (w.alloc (.cells cs t)) (.cells ds u); simpa using this, bel2M (alloc1B _ _) (alloc1B _ _)⟩
abbrev agE (s : Int) (b : Value) : Value := .agg #[.int .i64 s, b]

theorem setOtherB {W : World} {p q : Addr} {x u : Value} (h : W.cell? p = some x) (hne : p.block ≠ q.block) : (W.setCell q u).cell? p = some x := (World.cell?_of_block (Go.Deep.blk_setCell_other _ _ _ _ hne)).trans h
abbrev SRw (p1 p2 p3 p4 p5 p6 : Addr) (v1 v2 v3 v4 v5 v6 : Value) : World → Prop := fun W => W.cell? p1 = some v1 ∧ W.cell? p2 = some v2 ∧ W.cell? p3 = some v3 ∧ W.cell? p4 = some v4 ∧ W.cell? p5 = some v5 ∧ W.cell? p6 = some v6
theorem SRw.below {p1 p2 p3 p4 p5 p6 : Addr} {v1 v2 v3 v4 v5 v6 : Value} {W W' : World} (h : SRw p1 p2 p3 p4 p5 p6 v1 v2 v3 v4 v5 v6 W) (hb : Below W.heap.size W W') : SRw p1 p2 p3 p4 p5 p6 v1 v2 v3 v4 v5 v6 W' := ⟨cellB h.1 hb, cellB h.2.1 hb, cellB h.2.2.1 hb, cellB h.2.2.2.1 hb, cellB h.2.2.2.2.1 hb, cellB h.2.2.2.2.2 hb⟩
theorem SRw.set {p1 p2 p3 p4 p5 p6 : Addr} {v1 v2 v3 v4 v5 v6 : Value} {W : World} {g j : Nat} {u : Value} (h : SRw p1 p2 p3 p4 p5 p6 v1 v2 v3 v4 v5 v6 W) (n1 : p1.block ≠ g) (n2 : p2.block ≠ g) (n3 : p3.block ≠ g) (n4 : p4.block ≠ g) (n5 : p5.block ≠ g) (n6 : p6.block ≠ g) : SRw p1 p2 p3 p4 p5 p6 v1 v2 v3 v4 v5 v6 (W.setCell ⟨g, j, none⟩ u) := ⟨setOtherB h.1 n1, setOtherB h.2.1 n2, setOtherB h.2.2.1 n3, setOtherB h.2.2.2.1 n4, setOtherB h.2.2.2.2.1 n5, setOtherB h.2.2.2.2.2 n6⟩
theorem SRw.grown {p1 p2 p3 p4 p5 p6 : Addr} {v1 v2 v3 v4 v5 v6 : Value} {W W' : World} {row : Option Nat} {N : Nat} (h : SRw p1 p2 p3 p4 p5 p6 v1 v2 v3 v4 v5 v6 W) (hg : W.grownBy W' row) (hr : ∀ g, row = some g → N ≤ g) (n1 : p1.block < N) (n2 : p2.block < N) (n3 : p3.block < N) (n4 : p4.block < N) (n5 : p5.block < N) (n6 : p6.block < N) : SRw p1 p2 p3 p4 p5 p6 v1 v2 v3 v4 v5 v6 W' := by
  have key : ∀ (p : Addr) (x : Value), W.cell? p = some x → p.block < N → W'.cell? p = some x := fun p x hp hn => (World.cell?_of_block (hg.block _ (World.block_lt_of_cell? _ _ hp) (fun e => by have := hr _ e.symm; omega))).trans hp
  exact ⟨key _ _ h.1 n1, key _ _ h.2.1 n2, key _ _ h.2.2.1 n3, key _ _ h.2.2.2.1 n4, key _ _ h.2.2.2.2.1 n5, key _ _ h.2.2.2.2.2 n6⟩

def fewM (ls : List (List UInt8)) : Bool := decide (ls.length ≤ 40) && ls.all fun l => decide (l.length ≤ 200)
theorem fewM_iff {ls : List (List UInt8)} : fewM ls = true ↔ ls.length ≤ 40 ∧ ∀ l ∈ ls, l.length ≤ 200 := by simp [fewM]
theorem fewM.sum {ls : List (List UInt8)} (h : fewM ls = true) : ls.length ≤ 40 ∧ sumT ls ≤ 8880 := by
  obtain ⟨h1, h2⟩ := fewM_iff.1 h
  have h3 := sumT_le 200 ls h2
  have h4 : (200 + 22) * ls.length ≤ 222 * 40 := Nat.mul_le_mul_left _ h1
  exact ⟨h1, by omega⟩













theorem Bt.keepG {w w' : World} {v : Value} {l : List UInt8} (h : Bt w v l) (hz : w.heap.size ≤ w'.heap.size) (hk : ∀ (k : Nat) (cs : Array Value) (fr : Nat × Nat), w.heap[k]? = some (Obj.cells cs 5 fr) → w'.heap[k]? = w.heap[k]?) : Bt w' v l := by
  obtain ⟨⟨A, c, hv, hc, hm, hn, hx⟩, hy⟩ := h
  by_cases hl : l = []
  · subst hl
    exact ⟨⟨A, c, hv, hc, hm, hn, fun he => absurd rfl he⟩, fun he => absurd rfl he⟩
  · have hl' : l.map bc ≠ [] := by simpa using hl
    obtain ⟨ad, ha, hb, hr⟩ := hx hl'
    have hown : v.ownBlock = some ad.block := by rw [hv, ha]; rfl
    obtain ⟨cs2, fr2, hty⟩ := hy hl ad.block hown
    have hblk := hk _ _ _ hty
    refine ⟨⟨A, c, hv, hc, hm, hn, fun _ => ⟨ad, ha, Nat.lt_of_lt_of_le hb hz, fun j u hu => ?_⟩⟩, fun _ k hkk => ?_⟩
    · have hb2 : (ad.add j).block = ad.block := block_add ad j
      exact (World.cell?_of_block (w := w) (w' := w') (a := ad.add j) (by rw [hb2]; exact hblk)).trans (hr j u hu)
    · rw [hown] at hkk
      injection hkk with hkk
      subst hkk
      exact ⟨cs2, fr2, hblk.trans hty⟩
theorem RdR.keepG {w w' : World} {g : Nat} {rest : List UInt8} {e : Int} (h : RdR w g rest e) (hz : w.heap.size ≤ w'.heap.size) (hg : w'.heap[g]? = w.heap[g]?) (hk : ∀ (k : Nat) (cs : Array Value) (fr : Nat × Nat), w.heap[k]? = some (Obj.cells cs 5 fr) → w'.heap[k]? = w.heap[k]?) : RdR w' g rest e := by
  obtain ⟨rv, hh, hb⟩ := h
  exact ⟨rv, hg.trans hh, hb.keepG hz hk⟩
theorem other_blockG {w : World} {k N : Nat} {cs cs' : Array Value} {t t' : TypeId} {fr fr' : Nat × Nat} (hk : w.heap[k]? = some (.cells cs t fr)) (hN : w.heap[N]? = some (.cells cs' t' fr')) (ht : t ≠ t') : k ≠ N := by
  rintro rfl
  rw [hN] at hk
  injection hk with hk
  injection hk with h1 h2
  exact ht h2.symm
theorem stepF_lenG (k : Nat) (al : Int → Int) (rest : List UInt8) (e : Int) : (stepF k al rest e).2.1.length ≤ rest.length := by
  unfold stepF
  split
  · exact Nat.le_refl _
  split
  · exact Nat.le_refl _
  split
  · exact Nat.le_refl _
  · simp
theorem bytesF_lenG (most : Int) (rest : List UInt8) (e : Int) : (bytesF most rest e).2.1.length ≤ rest.length := by
  have h := stepF_lenG 4 (alBytes most rest) rest e
  unfold bytesF
  split
  · exact h
  · simp only [List.length_drop]
    omega


theorem int8F_lenG (rest : List UInt8) (e : Int) : (int8F rest e).2.1.length ≤ rest.length := stepF_lenG 8 alInt rest e
theorem bytesL_lenG (rest : List UInt8) (e : Int) : (bytesL rest e).2.1.length ≤ rest.length := bytesF_lenG _ rest e

theorem onlyNew {g b : Nat} {w a a' : World} (h : Only g w a) (ho : Only b a a') (hb : w.heap.size ≤ b) : Only g w a' :=
  ⟨ho.os.trans h.os, ho.tape.trans h.tape, ho.output.trans h.output, Nat.le_trans h.size ho.size, fun k hk hne => (ho.block k (Nat.lt_of_lt_of_le hk h.size) (by intro e; injection e with e; omega)).trans (h.block k hk hne)⟩
theorem rdStore {w w' : World} {g b : Nat} {rest : List UInt8} {e : Int} {cs : Array Value} {t : TypeId} {fr : Nat × Nat} (h : RdR w g rest e) (ho : Only b w w') (hb : w.heap[b]? = some (.cells cs t fr)) (ht : 5 ≠ t) (hg : g ≠ b) : RdR w' g rest e :=
  h.keepG ho.size (ho.block g h.lt (by intro e; injection e with e; exact hg e)) fun k cs2 fr2 hk => ho.block k (Array.getElem?_eq_some_iff.1 hk).1 (by intro e; injection e with e; exact other_blockG hk hb ht e)

abbrev EnvB := (Int × List UInt8) × Value
def envC (q : EnvB) : List Value := [.int .i64 q.1.1, q.2]
theorem envinfoB : (Try.prog.info? 45).map (fun i => (i.zero, i.size, i.bytes)) = some (some (.agg #[.int .i64 0, .slice none 0 0]), 2, 32) := by kernel_rfl
theorem own_keepG {w w' : World} {B e sz n : Nat} {v : Value} {xs : List Value} (h : w.ownsRow B e sz v n xs) (hk : ∀ k, v.ownBlock = some k → w'.heap[k]? = w.heap[k]?) : w'.ownsRow B e sz v n xs := by
  obtain ⟨h1, h2⟩ := h
  refine ⟨h1, ?_⟩
  rcases h2 with h2 | ⟨g, cap, cur, rfl, hb, hg, hr⟩
  · exact .inl h2
  · exact .inr ⟨g, cap, cur, rfl, hb, (hk g rfl).trans hg, hr⟩
theorem own_typed {w : World} {B e sz n : Nat} {v : Value} {xs : List Value} (h : w.ownsRow B e sz v n xs) (k : Nat) (hk : v.ownBlock = some k) : ∃ cs fr, w.heap[k]? = some (.cells cs e fr) := by
  rcases h.2 with ⟨rfl, -⟩ | ⟨g, cap, cur, rfl, -, hg, -⟩
  · cases hk
  · injection hk with hk
    subst hk
    exact ⟨_, _, hg⟩
section
variable {w W W2 : World} {g kb B : Nat} {h : Int} {prev : List UInt8} {E : List EnvB} {R : List (Int × Int)} {rq rr : Value} {rest : List UInt8} {err : Int}
end

abbrev agBd (b : Int × Int) : Value := .agg #[.int .i64 b.1, .int .i64 b.2]
abbrev shC (s : Shp) : Array Value := #[.int .i64 s.v.1, .int .i64 s.v.2, .int .i64 s.s.1, .int .i64 s.s.2, .int .i64 s.c.1, .int .i64 s.c.2, .int .i64 s.t.1, .int .i64 s.t.2, .int .i64 s.d.1, .int .i64 s.d.2, .int .i64 s.x.1, .int .i64 s.x.2, .bool s.r, .int .i64 s.b.1, .int .i64 s.b.2, .int .i64 s.p.1, .int .i64 s.p.2, .int .i64 s.q.1, .int .i64 s.q.2]
def Ans (v : Value) (w : World) (e : Ending) (w' : World) : Prop := e = .returned v ∧ Below w.heap.size w w'
theorem gAtMost_any (n : Int) (w : World) : Calls Try.prog 40 #[.int .i64 n] w (Ans (agBd (0, n)) w) := by
  go_enter Try.func40, Try.ntmps40
  go_wp2
  refine bodyPost_ret (v := agBd (0, n)) ?_ rfl ⟨rfl, (Below.refl _ _).alloc (Nat.le_refl _) _⟩
  simp [results, Try.results40, go_sem]
theorem numbersFrom_any (n : Int) (w : World) : Calls Try.prog 41 #[.int .i64 n] w (Ans (agBd (n, 1099511627776)) w) := by
  go_enter Try.func41, Try.ntmps41
  go_wp2
  refine bodyPost_ret (v := agBd (n, 1099511627776)) ?_ rfl ⟨rfl, (Below.refl _ _).alloc (Nat.le_refl _) _⟩
  simp [results, Try.results41, go_sem]
theorem gCount_any (b : Int × Int) (w : World) : Calls Try.prog 65 #[agBd b] w (Ans (.bool (countB b)) w) := by
  go_enter Try.func65, Try.ntmps65
  go_wp2
  go_ret
  exact ⟨ret_bool rfl, (Below.refl _ _).alloc (Nat.le_refl _) _⟩
theorem gAllow_any (b : Int × Int) (n : Int) (w : World) : Calls Try.prog 43 #[agBd b, .int .i64 n] w (Ans (.bool (allowB b n)) w) := by
  obtain ⟨b1, b2⟩ := b
  unfold allowB
  simp only
  cases h : decide (b1 ≤ n)
  · go_enter Try.func43, Try.ntmps43
    go_wp2
    go_ret
    exact ⟨ret_bool rfl, (Below.refl _ _).alloc (Nat.le_refl _) _⟩
  · go_enter Try.func43, Try.ntmps43
    go_wp2
    go_ret
    exact ⟨ret_bool rfl, (Below.refl _ _).alloc (Nat.le_refl _) _⟩
theorem bdInfo : (Try.prog.info? 49).map (·.size) = some 2 := by kernel_rfl
theorem heap_range {w : World} {b : Nat} {cs : Array Value} {t : TypeId} (h : w.heap[b]? = some (.cells cs t (0, 0))) (o : Nat) (l : List Value) (hl : ∀ (j : Nat) (v : Value), l[j]? = some v → cs[o + j]? = some v) : w.rangeAt b o l := fun j v hv => (cell_of_row w b (o + j) cs t (0, 0) h).trans (hl j v hv)
theorem set_at {w : World} {b : Nat} {cs : Array Value} {t : TypeId} (h : w.heap[b]? = some (.cells cs t (0, 0))) (j : Nat) (u : Value) : (w.setCell ⟨b, j, none⟩ u).heap[b]? = some (.cells (cs.setIfInBounds j u) t (0, 0)) := by
  simp [World.setCell, Array.getElem?_modify, h]
theorem wpList_store2 {ops : Array Oper} {rest : List Oper} {op : Oper} {a : Act} {w : World} {Q : Exit → Act → World → Prop} (hgd : op.guard = none) (x y : Operand) (ho : op.op = .store 49 x y)
    (b o : Nat) (u1 u2 : Value) (cs cs' : Array Value) (t : TypeId) (hx : a.eval x = .pointer (some ⟨b, o, none⟩)) (hy : a.eval y = .agg #[u1, u2]) (hh : w.heap[b]? = some (.cells cs t (0, 0))) (h1 : u1.oneCell' = true) (h2 : u2.oneCell' = true) (hs : o + 1 < cs.size)
    (hc : (cs.setIfInBounds o u1).setIfInBounds (o + 1) u2 = cs')
    (h : ∀ w', w'.heap.size = w.heap.size → w'.heap[b]? = some (.cells cs' t (0, 0)) → Only b w w' → wpList Try.prog ops Q rest (a.put op.dst undef) w') : wpList Try.prog ops Q (op :: rest) a w := by
  refine wpList_store_mid hgd 49 x y ho b o #[u1, u2] hx hy (fun j hj => ?_) bdInfo (by simp [h1, h2]) ?_
  · have hj : j < 2 := hj
    refine ⟨?_, by simp [World.frozen?, hh]⟩
    rw [cell_of_row w b (o + j) cs t (0, 0) hh, Array.getElem?_eq_getElem (by omega)]
    rfl
  · refine h _ (by simp [World.setCells]) ?_ ((Only.refl b w).set o u1 |>.set (o + 1) u2)
    subst hc
    exact set_at (set_at hh o u1) (o + 1) u2
theorem anyLength_any (w : World) : Calls Try.prog 42 #[] w (Ans (agBd (0, 9223372036854775807)) w) := by
  have HA := Lib.hid (fun W => gAtMost_any 9223372036854775807 W)
  have h0 := heap_alloc_new w (.cells #[.int .i64 0, .int .i64 0] 49)
  have hb0 := alloc1B w (.cells #[.int .i64 0, .int .i64 0] 49)
  have HX := Lib.hid h0
  have HB := Lib.hid hb0
  clear h0 hb0
  go_enter Try.func42, Try.ntmps42
  go_wp2_with (first
    | (go_at_call 40; refine (HA.out _).mono ?_; rintro e w' ⟨rfl, hb⟩; have HX := Lib.hid (heapB HX.out hb); have HB := Lib.hid (bel2M HB.out hb); clear hb)
    | (refine wpList_store2 rfl _ _ rfl w.heap.size 0 _ _ _ _ 49 rfl rfl HX.out rfl rfl (by decide) rfl ?_; intro w' hz hx ho; have HX := Lib.hid hx; have HB := Lib.hid (onlyBelow HB.out ho (Nat.le_refl _) (Nat.le_refl _)); clear hz hx ho))
  have k0 := rowCell HX.out 0 (Value.int .i64 0) rfl
  have k1 := rowCell HX.out 1 (Value.int .i64 9223372036854775807) rfl
  refine bodyPost_ret (v := agBd (0, 9223372036854775807)) ?_ rfl ⟨rfl, HB.out⟩
  simp [results, Try.results42, go_sem, k0, k1]
/- the kinds (gengshp.py) -/
theorem boInfo : (Try.prog.info? 4).map (·.size) = some 1 := by kernel_rfl
theorem heap_all {w : World} {b : Nat} {cs : Array Value} {t : TypeId} (h : w.heap[b]? = some (.cells cs t (0, 0))) : w.rangeAt b 0 cs.toList := heap_range h 0 _ fun j v hv => by simpa using hv
theorem wpList_store1 {ops : Array Oper} {rest : List Oper} {op : Oper} {a : Act} {w : World} {Q : Exit → Act → World → Prop} (hgd : op.guard = none) (x y : Operand) (ho : op.op = .store 4 x y)
    (b o : Nat) (u : Bool) (cs cs' : Array Value) (t : TypeId) (hx : a.eval x = .pointer (some ⟨b, o, none⟩)) (hy : a.eval y = .bool u) (hh : w.heap[b]? = some (.cells cs t (0, 0))) (hs : o < cs.size)
    (hc : cs.setIfInBounds o (.bool u) = cs')
    (h : ∀ w', w'.heap.size = w.heap.size → w'.heap[b]? = some (.cells cs' t (0, 0)) → Only b w w' → wpList Try.prog ops Q rest (a.put op.dst undef) w') : wpList Try.prog ops Q (op :: rest) a w := by
  refine wpList_plain hgd fun _ hK => ?_
  have hcell : w.cell? ⟨b, o, none⟩ = some cs[o] := (cell_of_row w b o cs t (0, 0) hh).trans (Array.getElem?_eq_getElem hs)
  have hfr : w.frozen? ⟨b, o, none⟩ = false := by simp [World.frozen?, hh]
  unfold Oper.wp execOp
  simp only [ho, hx, hy, Instr.storeAt, Instr.sureAddr, Sem.run_bind, Sem.run_pure, Result.andThen_ok]
  have hrun : (storeVar 4 ⟨b, o, none⟩ (.bool u)).run Try.prog w = .ok () (w.setCell ⟨b, o, none⟩ (.bool u)) := by
    obtain ⟨i, hi, hsz⟩ := Option.map_eq_some_iff.1 boInfo
    simp [storeVar, sizeOf, typeInfo, go_sem, hcell, hfr, hi, hsz, Value.cells]
  rw [hrun]
  simp only [Result.andThen_ok]
  refine hK _ _ (h _ (by simp) ?_ ((Only.refl b w).set o _))
  subst hc
  exact set_at hh o _
theorem wpList_storeAll {ops : Array Oper} {rest : List Oper} {op : Oper} {a : Act} {w : World} {Q : Exit → Act → World → Prop} (hgd : op.guard = none) (ty : TypeId) (x y : Operand) (ho : op.op = .store ty x y)
    (b : Nat) (cells cur : Array Value) (hx : a.eval x = .pointer (some ⟨b, 0, none⟩)) (hy : a.eval y = .agg cells)
    (hh : w.heap[b]? = some (.cells cur ty (0, 0))) (hs : cur.size = cells.size) (hi : (Try.prog.info? ty).map (·.size) = some cells.size) (h1 : cells.all (·.oneCell') = true)
    (h : ∀ w', w'.heap.size = w.heap.size → w'.heap[b]? = some (.cells cells ty (0, 0)) → Only b w w' → wpList Try.prog ops Q rest (a.put op.dst undef) w') : wpList Try.prog ops Q (op :: rest) a w :=
  wpList_store_row hgd ty x y ho b cells cur hx hy hh hs hi h1 (h _ (by simp) (setRow_heap w b cur cells ty (0, 0) hh) (only_setRow w b cells))
abbrev shZ : Shp := ⟨(0, 0), (0, 0), (0, 0), (0, 0), (0, 0), (0, 0), false, (0, 0), (0, 0), (0, 0)⟩
def ShpP (k : Int) (w : World) (e : Ending) (w' : World) : Prop := e = .returned (.tuple #[.agg (shC (shapeM k).1), .bool (shapeM k).2]) ∧ Below w.heap.size w w'
set_option maxHeartbeats 2000000 in
theorem shape_2 (w : World) : Calls Try.prog 20 #[.int .i64 2] w (ShpP 2 w) := by
  have HA := Lib.hid (fun n W => gAtMost_any n W)
  have HN := Lib.hid (fun n W => numbersFrom_any n W)
  have HL := Lib.hid (fun W => anyLength_any W)
  obtain ⟨x1, x2, x3⟩ := box2B w (shC shZ) (shC shZ) 51 51
  go_enter Try.func20, Try.ntmps20
  go_upto_region 2 with fail
  generalize hw0 : (w.alloc _).alloc _ = w0 at *
  have HR := Lib.hid x1
  have HX := Lib.hid x2
  have HB := Lib.hid x3
  clear x1 x2 x3 hw0
  go_wp2_with (first
    | (go_at_call 40; refine (HA.out _ _).mono ?_; rintro e w' ⟨rfl, hb⟩; have HX := Lib.hid (heapB HX.out hb); have HR := Lib.hid (heapB HR.out hb); have HB := Lib.hid (bel2M HB.out hb); clear hb)
    | (go_at_call 41; refine (HN.out _ _).mono ?_; rintro e w' ⟨rfl, hb⟩; have HX := Lib.hid (heapB HX.out hb); have HR := Lib.hid (heapB HR.out hb); have HB := Lib.hid (bel2M HB.out hb); clear hb)
    | (go_at_call 42; refine (HL.out _).mono ?_; rintro e w' ⟨rfl, hb⟩; have HX := Lib.hid (heapB HX.out hb); have HR := Lib.hid (heapB HR.out hb); have HB := Lib.hid (bel2M HB.out hb); clear hb)
    | (refine wpList_store2 rfl _ _ rfl (w.heap.size + 1) _ _ _ _ _ 51 rfl rfl HX.out rfl rfl (by decide) rfl ?_; intro w' hz hx ho; have HX := Lib.hid hx; have HR := Lib.hid (onlyHeap ho HR.out (by omega)); have HB := Lib.hid (onlyBelow HB.out ho (by omega) (Nat.le_refl _)); clear hz hx ho)
    | (refine wpList_store1 rfl _ _ rfl (w.heap.size + 1) _ _ _ _ 51 rfl rfl HX.out (by decide) rfl ?_; intro w' hz hx ho; have HX := Lib.hid hx; have HR := Lib.hid (onlyHeap ho HR.out (by omega)); have HB := Lib.hid (onlyBelow HB.out ho (by omega) (Nat.le_refl _)); clear hz hx ho)
    | (refine wpList_load_mid rfl 51 _ rfl (w.heap.size + 1) 0 rfl _ _ (heap_all HX.out) Try.underlying51 rfl (by kernel_rfl) ?_)
    | (refine wpList_storeAll rfl 51 _ _ rfl w.heap.size _ _ rfl rfl HR.out rfl (by kernel_rfl) (by kernel_rfl) ?_; intro w' hz hr ho; have HR := Lib.hid hr; have HB := Lib.hid (onlyBelow HB.out ho (Nat.le_refl _) (Nat.le_refl _)); clear hz hr ho))
  refine bodyPost_ret (results_cell2 rfl _ _ w.heap.size 51 _ (0, 0) _ rfl HR.out Try.underlying51 rfl (by kernel_rfl)) rfl ?_
  exact ⟨by kernel_rfl, HB.out⟩
set_option maxHeartbeats 2000000 in
theorem shape_3 (w : World) : Calls Try.prog 20 #[.int .i64 3] w (ShpP 3 w) := by
  have HA := Lib.hid (fun n W => gAtMost_any n W)
  have HN := Lib.hid (fun n W => numbersFrom_any n W)
  have HL := Lib.hid (fun W => anyLength_any W)
  obtain ⟨x1, x2, x3⟩ := box2B w (shC shZ) (shC shZ) 51 51
  go_enter Try.func20, Try.ntmps20
  go_upto_region 2 with fail
  generalize hw0 : (w.alloc _).alloc _ = w0 at *
  have HR := Lib.hid x1
  have HX := Lib.hid x2
  have HB := Lib.hid x3
  clear x1 x2 x3 hw0
  go_wp2_with (first
    | (go_at_call 40; refine (HA.out _ _).mono ?_; rintro e w' ⟨rfl, hb⟩; have HX := Lib.hid (heapB HX.out hb); have HR := Lib.hid (heapB HR.out hb); have HB := Lib.hid (bel2M HB.out hb); clear hb)
    | (go_at_call 41; refine (HN.out _ _).mono ?_; rintro e w' ⟨rfl, hb⟩; have HX := Lib.hid (heapB HX.out hb); have HR := Lib.hid (heapB HR.out hb); have HB := Lib.hid (bel2M HB.out hb); clear hb)
    | (go_at_call 42; refine (HL.out _).mono ?_; rintro e w' ⟨rfl, hb⟩; have HX := Lib.hid (heapB HX.out hb); have HR := Lib.hid (heapB HR.out hb); have HB := Lib.hid (bel2M HB.out hb); clear hb)
    | (refine wpList_store2 rfl _ _ rfl (w.heap.size + 1) _ _ _ _ _ 51 rfl rfl HX.out rfl rfl (by decide) rfl ?_; intro w' hz hx ho; have HX := Lib.hid hx; have HR := Lib.hid (onlyHeap ho HR.out (by omega)); have HB := Lib.hid (onlyBelow HB.out ho (by omega) (Nat.le_refl _)); clear hz hx ho)
    | (refine wpList_store1 rfl _ _ rfl (w.heap.size + 1) _ _ _ _ 51 rfl rfl HX.out (by decide) rfl ?_; intro w' hz hx ho; have HX := Lib.hid hx; have HR := Lib.hid (onlyHeap ho HR.out (by omega)); have HB := Lib.hid (onlyBelow HB.out ho (by omega) (Nat.le_refl _)); clear hz hx ho)
    | (refine wpList_load_mid rfl 51 _ rfl (w.heap.size + 1) 0 rfl _ _ (heap_all HX.out) Try.underlying51 rfl (by kernel_rfl) ?_)
    | (refine wpList_storeAll rfl 51 _ _ rfl w.heap.size _ _ rfl rfl HR.out rfl (by kernel_rfl) (by kernel_rfl) ?_; intro w' hz hr ho; have HR := Lib.hid hr; have HB := Lib.hid (onlyBelow HB.out ho (Nat.le_refl _) (Nat.le_refl _)); clear hz hr ho))
  refine bodyPost_ret (results_cell2 rfl _ _ w.heap.size 51 _ (0, 0) _ rfl HR.out Try.underlying51 rfl (by kernel_rfl)) rfl ?_
  exact ⟨by kernel_rfl, HB.out⟩
set_option maxHeartbeats 2000000 in
theorem shape_4 (w : World) : Calls Try.prog 20 #[.int .i64 4] w (ShpP 4 w) := by
  have HA := Lib.hid (fun n W => gAtMost_any n W)
  have HN := Lib.hid (fun n W => numbersFrom_any n W)
  have HL := Lib.hid (fun W => anyLength_any W)
  obtain ⟨x1, x2, x3⟩ := box2B w (shC shZ) (shC shZ) 51 51
  go_enter Try.func20, Try.ntmps20
  go_upto_region 2 with fail
  generalize hw0 : (w.alloc _).alloc _ = w0 at *
  have HR := Lib.hid x1
  have HX := Lib.hid x2
  have HB := Lib.hid x3
  clear x1 x2 x3 hw0
  go_wp2_with (first
    | (go_at_call 40; refine (HA.out _ _).mono ?_; rintro e w' ⟨rfl, hb⟩; have HX := Lib.hid (heapB HX.out hb); have HR := Lib.hid (heapB HR.out hb); have HB := Lib.hid (bel2M HB.out hb); clear hb)
    | (go_at_call 41; refine (HN.out _ _).mono ?_; rintro e w' ⟨rfl, hb⟩; have HX := Lib.hid (heapB HX.out hb); have HR := Lib.hid (heapB HR.out hb); have HB := Lib.hid (bel2M HB.out hb); clear hb)
    | (go_at_call 42; refine (HL.out _).mono ?_; rintro e w' ⟨rfl, hb⟩; have HX := Lib.hid (heapB HX.out hb); have HR := Lib.hid (heapB HR.out hb); have HB := Lib.hid (bel2M HB.out hb); clear hb)
    | (refine wpList_store2 rfl _ _ rfl (w.heap.size + 1) _ _ _ _ _ 51 rfl rfl HX.out rfl rfl (by decide) rfl ?_; intro w' hz hx ho; have HX := Lib.hid hx; have HR := Lib.hid (onlyHeap ho HR.out (by omega)); have HB := Lib.hid (onlyBelow HB.out ho (by omega) (Nat.le_refl _)); clear hz hx ho)
    | (refine wpList_store1 rfl _ _ rfl (w.heap.size + 1) _ _ _ _ 51 rfl rfl HX.out (by decide) rfl ?_; intro w' hz hx ho; have HX := Lib.hid hx; have HR := Lib.hid (onlyHeap ho HR.out (by omega)); have HB := Lib.hid (onlyBelow HB.out ho (by omega) (Nat.le_refl _)); clear hz hx ho)
    | (refine wpList_load_mid rfl 51 _ rfl (w.heap.size + 1) 0 rfl _ _ (heap_all HX.out) Try.underlying51 rfl (by kernel_rfl) ?_)
    | (refine wpList_storeAll rfl 51 _ _ rfl w.heap.size _ _ rfl rfl HR.out rfl (by kernel_rfl) (by kernel_rfl) ?_; intro w' hz hr ho; have HR := Lib.hid hr; have HB := Lib.hid (onlyBelow HB.out ho (Nat.le_refl _) (Nat.le_refl _)); clear hz hr ho))
  refine bodyPost_ret (results_cell2 rfl _ _ w.heap.size 51 _ (0, 0) _ rfl HR.out Try.underlying51 rfl (by kernel_rfl)) rfl ?_
  exact ⟨by kernel_rfl, HB.out⟩
set_option maxHeartbeats 2000000 in
theorem shape_5 (w : World) : Calls Try.prog 20 #[.int .i64 5] w (ShpP 5 w) := by
  have HA := Lib.hid (fun n W => gAtMost_any n W)
  have HN := Lib.hid (fun n W => numbersFrom_any n W)
  have HL := Lib.hid (fun W => anyLength_any W)
  obtain ⟨x1, x2, x3⟩ := box2B w (shC shZ) (shC shZ) 51 51
  go_enter Try.func20, Try.ntmps20
  go_upto_region 2 with fail
  generalize hw0 : (w.alloc _).alloc _ = w0 at *
  have HR := Lib.hid x1
  have HX := Lib.hid x2
  have HB := Lib.hid x3
  clear x1 x2 x3 hw0
  go_wp2_with (first
    | (go_at_call 40; refine (HA.out _ _).mono ?_; rintro e w' ⟨rfl, hb⟩; have HX := Lib.hid (heapB HX.out hb); have HR := Lib.hid (heapB HR.out hb); have HB := Lib.hid (bel2M HB.out hb); clear hb)
    | (go_at_call 41; refine (HN.out _ _).mono ?_; rintro e w' ⟨rfl, hb⟩; have HX := Lib.hid (heapB HX.out hb); have HR := Lib.hid (heapB HR.out hb); have HB := Lib.hid (bel2M HB.out hb); clear hb)
    | (go_at_call 42; refine (HL.out _).mono ?_; rintro e w' ⟨rfl, hb⟩; have HX := Lib.hid (heapB HX.out hb); have HR := Lib.hid (heapB HR.out hb); have HB := Lib.hid (bel2M HB.out hb); clear hb)
    | (refine wpList_store2 rfl _ _ rfl (w.heap.size + 1) _ _ _ _ _ 51 rfl rfl HX.out rfl rfl (by decide) rfl ?_; intro w' hz hx ho; have HX := Lib.hid hx; have HR := Lib.hid (onlyHeap ho HR.out (by omega)); have HB := Lib.hid (onlyBelow HB.out ho (by omega) (Nat.le_refl _)); clear hz hx ho)
    | (refine wpList_store1 rfl _ _ rfl (w.heap.size + 1) _ _ _ _ 51 rfl rfl HX.out (by decide) rfl ?_; intro w' hz hx ho; have HX := Lib.hid hx; have HR := Lib.hid (onlyHeap ho HR.out (by omega)); have HB := Lib.hid (onlyBelow HB.out ho (by omega) (Nat.le_refl _)); clear hz hx ho)
    | (refine wpList_load_mid rfl 51 _ rfl (w.heap.size + 1) 0 rfl _ _ (heap_all HX.out) Try.underlying51 rfl (by kernel_rfl) ?_)
    | (refine wpList_storeAll rfl 51 _ _ rfl w.heap.size _ _ rfl rfl HR.out rfl (by kernel_rfl) (by kernel_rfl) ?_; intro w' hz hr ho; have HR := Lib.hid hr; have HB := Lib.hid (onlyBelow HB.out ho (Nat.le_refl _) (Nat.le_refl _)); clear hz hr ho))
  refine bodyPost_ret (results_cell2 rfl _ _ w.heap.size 51 _ (0, 0) _ rfl HR.out Try.underlying51 rfl (by kernel_rfl)) rfl ?_
  exact ⟨by kernel_rfl, HB.out⟩
set_option maxHeartbeats 2000000 in
theorem shape_1 (w : World) : Calls Try.prog 20 #[.int .i64 1] w (ShpP 1 w) := by
  have HA := Lib.hid (fun n W => gAtMost_any n W)
  have HN := Lib.hid (fun n W => numbersFrom_any n W)
  have HL := Lib.hid (fun W => anyLength_any W)
  obtain ⟨x1, x2, x3⟩ := box2B w (shC shZ) (shC shZ) 51 51
  go_enter Try.func20, Try.ntmps20
  go_upto_region 2 with fail
  generalize hw0 : (w.alloc _).alloc _ = w0 at *
  have HR := Lib.hid x1
  have HX := Lib.hid x2
  have HB := Lib.hid x3
  clear x1 x2 x3 hw0
  go_wp2_with (first
    | (go_at_call 40; refine (HA.out _ _).mono ?_; rintro e w' ⟨rfl, hb⟩; have HX := Lib.hid (heapB HX.out hb); have HR := Lib.hid (heapB HR.out hb); have HB := Lib.hid (bel2M HB.out hb); clear hb)
    | (go_at_call 41; refine (HN.out _ _).mono ?_; rintro e w' ⟨rfl, hb⟩; have HX := Lib.hid (heapB HX.out hb); have HR := Lib.hid (heapB HR.out hb); have HB := Lib.hid (bel2M HB.out hb); clear hb)
    | (go_at_call 42; refine (HL.out _).mono ?_; rintro e w' ⟨rfl, hb⟩; have HX := Lib.hid (heapB HX.out hb); have HR := Lib.hid (heapB HR.out hb); have HB := Lib.hid (bel2M HB.out hb); clear hb)
    | (refine wpList_store2 rfl _ _ rfl (w.heap.size + 1) _ _ _ _ _ 51 rfl rfl HX.out rfl rfl (by decide) rfl ?_; intro w' hz hx ho; have HX := Lib.hid hx; have HR := Lib.hid (onlyHeap ho HR.out (by omega)); have HB := Lib.hid (onlyBelow HB.out ho (by omega) (Nat.le_refl _)); clear hz hx ho)
    | (refine wpList_store1 rfl _ _ rfl (w.heap.size + 1) _ _ _ _ 51 rfl rfl HX.out (by decide) rfl ?_; intro w' hz hx ho; have HX := Lib.hid hx; have HR := Lib.hid (onlyHeap ho HR.out (by omega)); have HB := Lib.hid (onlyBelow HB.out ho (by omega) (Nat.le_refl _)); clear hz hx ho)
    | (refine wpList_load_mid rfl 51 _ rfl (w.heap.size + 1) 0 rfl _ _ (heap_all HX.out) Try.underlying51 rfl (by kernel_rfl) ?_)
    | (refine wpList_storeAll rfl 51 _ _ rfl w.heap.size _ _ rfl rfl HR.out rfl (by kernel_rfl) (by kernel_rfl) ?_; intro w' hz hr ho; have HR := Lib.hid hr; have HB := Lib.hid (onlyBelow HB.out ho (Nat.le_refl _) (Nat.le_refl _)); clear hz hr ho))
  refine bodyPost_ret (results_cell2 rfl _ _ w.heap.size 51 _ (0, 0) _ rfl HR.out Try.underlying51 rfl (by kernel_rfl)) rfl ?_
  exact ⟨by kernel_rfl, HB.out⟩
set_option maxHeartbeats 2000000 in
theorem shape_8 (w : World) : Calls Try.prog 20 #[.int .i64 8] w (ShpP 8 w) := by
  have HA := Lib.hid (fun n W => gAtMost_any n W)
  have HN := Lib.hid (fun n W => numbersFrom_any n W)
  have HL := Lib.hid (fun W => anyLength_any W)
  obtain ⟨x1, x2, x3⟩ := box2B w (shC shZ) (shC shZ) 51 51
  go_enter Try.func20, Try.ntmps20
  go_upto_region 2 with fail
  generalize hw0 : (w.alloc _).alloc _ = w0 at *
  have HR := Lib.hid x1
  have HX := Lib.hid x2
  have HB := Lib.hid x3
  clear x1 x2 x3 hw0
  go_wp2_with (first
    | (go_at_call 40; refine (HA.out _ _).mono ?_; rintro e w' ⟨rfl, hb⟩; have HX := Lib.hid (heapB HX.out hb); have HR := Lib.hid (heapB HR.out hb); have HB := Lib.hid (bel2M HB.out hb); clear hb)
    | (go_at_call 41; refine (HN.out _ _).mono ?_; rintro e w' ⟨rfl, hb⟩; have HX := Lib.hid (heapB HX.out hb); have HR := Lib.hid (heapB HR.out hb); have HB := Lib.hid (bel2M HB.out hb); clear hb)
    | (go_at_call 42; refine (HL.out _).mono ?_; rintro e w' ⟨rfl, hb⟩; have HX := Lib.hid (heapB HX.out hb); have HR := Lib.hid (heapB HR.out hb); have HB := Lib.hid (bel2M HB.out hb); clear hb)
    | (refine wpList_store2 rfl _ _ rfl (w.heap.size + 1) _ _ _ _ _ 51 rfl rfl HX.out rfl rfl (by decide) rfl ?_; intro w' hz hx ho; have HX := Lib.hid hx; have HR := Lib.hid (onlyHeap ho HR.out (by omega)); have HB := Lib.hid (onlyBelow HB.out ho (by omega) (Nat.le_refl _)); clear hz hx ho)
    | (refine wpList_store1 rfl _ _ rfl (w.heap.size + 1) _ _ _ _ 51 rfl rfl HX.out (by decide) rfl ?_; intro w' hz hx ho; have HX := Lib.hid hx; have HR := Lib.hid (onlyHeap ho HR.out (by omega)); have HB := Lib.hid (onlyBelow HB.out ho (by omega) (Nat.le_refl _)); clear hz hx ho)
    | (refine wpList_load_mid rfl 51 _ rfl (w.heap.size + 1) 0 rfl _ _ (heap_all HX.out) Try.underlying51 rfl (by kernel_rfl) ?_)
    | (refine wpList_storeAll rfl 51 _ _ rfl w.heap.size _ _ rfl rfl HR.out rfl (by kernel_rfl) (by kernel_rfl) ?_; intro w' hz hr ho; have HR := Lib.hid hr; have HB := Lib.hid (onlyBelow HB.out ho (Nat.le_refl _) (Nat.le_refl _)); clear hz hr ho))
  refine bodyPost_ret (results_cell2 rfl _ _ w.heap.size 51 _ (0, 0) _ rfl HR.out Try.underlying51 rfl (by kernel_rfl)) rfl ?_
  exact ⟨by kernel_rfl, HB.out⟩
set_option maxHeartbeats 2000000 in
theorem shape_6 (w : World) : Calls Try.prog 20 #[.int .i64 6] w (ShpP 6 w) := by
  have HA := Lib.hid (fun n W => gAtMost_any n W)
  have HN := Lib.hid (fun n W => numbersFrom_any n W)
  have HL := Lib.hid (fun W => anyLength_any W)
  obtain ⟨x1, x2, x3⟩ := box2B w (shC shZ) (shC shZ) 51 51
  go_enter Try.func20, Try.ntmps20
  go_upto_region 2 with fail
  generalize hw0 : (w.alloc _).alloc _ = w0 at *
  have HR := Lib.hid x1
  have HX := Lib.hid x2
  have HB := Lib.hid x3
  clear x1 x2 x3 hw0
  go_wp2_with (first
    | (go_at_call 40; refine (HA.out _ _).mono ?_; rintro e w' ⟨rfl, hb⟩; have HX := Lib.hid (heapB HX.out hb); have HR := Lib.hid (heapB HR.out hb); have HB := Lib.hid (bel2M HB.out hb); clear hb)
    | (go_at_call 41; refine (HN.out _ _).mono ?_; rintro e w' ⟨rfl, hb⟩; have HX := Lib.hid (heapB HX.out hb); have HR := Lib.hid (heapB HR.out hb); have HB := Lib.hid (bel2M HB.out hb); clear hb)
    | (go_at_call 42; refine (HL.out _).mono ?_; rintro e w' ⟨rfl, hb⟩; have HX := Lib.hid (heapB HX.out hb); have HR := Lib.hid (heapB HR.out hb); have HB := Lib.hid (bel2M HB.out hb); clear hb)
    | (refine wpList_store2 rfl _ _ rfl (w.heap.size + 1) _ _ _ _ _ 51 rfl rfl HX.out rfl rfl (by decide) rfl ?_; intro w' hz hx ho; have HX := Lib.hid hx; have HR := Lib.hid (onlyHeap ho HR.out (by omega)); have HB := Lib.hid (onlyBelow HB.out ho (by omega) (Nat.le_refl _)); clear hz hx ho)
    | (refine wpList_store1 rfl _ _ rfl (w.heap.size + 1) _ _ _ _ 51 rfl rfl HX.out (by decide) rfl ?_; intro w' hz hx ho; have HX := Lib.hid hx; have HR := Lib.hid (onlyHeap ho HR.out (by omega)); have HB := Lib.hid (onlyBelow HB.out ho (by omega) (Nat.le_refl _)); clear hz hx ho)
    | (refine wpList_load_mid rfl 51 _ rfl (w.heap.size + 1) 0 rfl _ _ (heap_all HX.out) Try.underlying51 rfl (by kernel_rfl) ?_)
    | (refine wpList_storeAll rfl 51 _ _ rfl w.heap.size _ _ rfl rfl HR.out rfl (by kernel_rfl) (by kernel_rfl) ?_; intro w' hz hr ho; have HR := Lib.hid hr; have HB := Lib.hid (onlyBelow HB.out ho (Nat.le_refl _) (Nat.le_refl _)); clear hz hr ho))
  refine bodyPost_ret (results_cell2 rfl _ _ w.heap.size 51 _ (0, 0) _ rfl HR.out Try.underlying51 rfl (by kernel_rfl)) rfl ?_
  exact ⟨by kernel_rfl, HB.out⟩
set_option maxHeartbeats 2000000 in
theorem shape_7 (w : World) : Calls Try.prog 20 #[.int .i64 7] w (ShpP 7 w) := by
  have HA := Lib.hid (fun n W => gAtMost_any n W)
  have HN := Lib.hid (fun n W => numbersFrom_any n W)
  have HL := Lib.hid (fun W => anyLength_any W)
  obtain ⟨x1, x2, x3⟩ := box2B w (shC shZ) (shC shZ) 51 51
  go_enter Try.func20, Try.ntmps20
  go_upto_region 2 with fail
  generalize hw0 : (w.alloc _).alloc _ = w0 at *
  have HR := Lib.hid x1
  have HX := Lib.hid x2
  have HB := Lib.hid x3
  clear x1 x2 x3 hw0
  go_wp2_with (first
    | (go_at_call 40; refine (HA.out _ _).mono ?_; rintro e w' ⟨rfl, hb⟩; have HX := Lib.hid (heapB HX.out hb); have HR := Lib.hid (heapB HR.out hb); have HB := Lib.hid (bel2M HB.out hb); clear hb)
    | (go_at_call 41; refine (HN.out _ _).mono ?_; rintro e w' ⟨rfl, hb⟩; have HX := Lib.hid (heapB HX.out hb); have HR := Lib.hid (heapB HR.out hb); have HB := Lib.hid (bel2M HB.out hb); clear hb)
    | (go_at_call 42; refine (HL.out _).mono ?_; rintro e w' ⟨rfl, hb⟩; have HX := Lib.hid (heapB HX.out hb); have HR := Lib.hid (heapB HR.out hb); have HB := Lib.hid (bel2M HB.out hb); clear hb)
    | (refine wpList_store2 rfl _ _ rfl (w.heap.size + 1) _ _ _ _ _ 51 rfl rfl HX.out rfl rfl (by decide) rfl ?_; intro w' hz hx ho; have HX := Lib.hid hx; have HR := Lib.hid (onlyHeap ho HR.out (by omega)); have HB := Lib.hid (onlyBelow HB.out ho (by omega) (Nat.le_refl _)); clear hz hx ho)
    | (refine wpList_store1 rfl _ _ rfl (w.heap.size + 1) _ _ _ _ 51 rfl rfl HX.out (by decide) rfl ?_; intro w' hz hx ho; have HX := Lib.hid hx; have HR := Lib.hid (onlyHeap ho HR.out (by omega)); have HB := Lib.hid (onlyBelow HB.out ho (by omega) (Nat.le_refl _)); clear hz hx ho)
    | (refine wpList_load_mid rfl 51 _ rfl (w.heap.size + 1) 0 rfl _ _ (heap_all HX.out) Try.underlying51 rfl (by kernel_rfl) ?_)
    | (refine wpList_storeAll rfl 51 _ _ rfl w.heap.size _ _ rfl rfl HR.out rfl (by kernel_rfl) (by kernel_rfl) ?_; intro w' hz hr ho; have HR := Lib.hid hr; have HB := Lib.hid (onlyBelow HB.out ho (Nat.le_refl _) (Nat.le_refl _)); clear hz hr ho))
  refine bodyPost_ret (results_cell2 rfl _ _ w.heap.size 51 _ (0, 0) _ rfl HR.out Try.underlying51 rfl (by kernel_rfl)) rfl ?_
  exact ⟨by kernel_rfl, HB.out⟩
set_option maxHeartbeats 2000000 in
theorem shape_9 (w : World) : Calls Try.prog 20 #[.int .i64 9] w (ShpP 9 w) := by
  have HA := Lib.hid (fun n W => gAtMost_any n W)
  have HN := Lib.hid (fun n W => numbersFrom_any n W)
  have HL := Lib.hid (fun W => anyLength_any W)
  obtain ⟨x1, x2, x3⟩ := box2B w (shC shZ) (shC shZ) 51 51
  go_enter Try.func20, Try.ntmps20
  go_upto_region 2 with fail
  generalize hw0 : (w.alloc _).alloc _ = w0 at *
  have HR := Lib.hid x1
  have HX := Lib.hid x2
  have HB := Lib.hid x3
  clear x1 x2 x3 hw0
  go_wp2_with (first
    | (go_at_call 40; refine (HA.out _ _).mono ?_; rintro e w' ⟨rfl, hb⟩; have HX := Lib.hid (heapB HX.out hb); have HR := Lib.hid (heapB HR.out hb); have HB := Lib.hid (bel2M HB.out hb); clear hb)
    | (go_at_call 41; refine (HN.out _ _).mono ?_; rintro e w' ⟨rfl, hb⟩; have HX := Lib.hid (heapB HX.out hb); have HR := Lib.hid (heapB HR.out hb); have HB := Lib.hid (bel2M HB.out hb); clear hb)
    | (go_at_call 42; refine (HL.out _).mono ?_; rintro e w' ⟨rfl, hb⟩; have HX := Lib.hid (heapB HX.out hb); have HR := Lib.hid (heapB HR.out hb); have HB := Lib.hid (bel2M HB.out hb); clear hb)
    | (refine wpList_store2 rfl _ _ rfl (w.heap.size + 1) _ _ _ _ _ 51 rfl rfl HX.out rfl rfl (by decide) rfl ?_; intro w' hz hx ho; have HX := Lib.hid hx; have HR := Lib.hid (onlyHeap ho HR.out (by omega)); have HB := Lib.hid (onlyBelow HB.out ho (by omega) (Nat.le_refl _)); clear hz hx ho)
    | (refine wpList_store1 rfl _ _ rfl (w.heap.size + 1) _ _ _ _ 51 rfl rfl HX.out (by decide) rfl ?_; intro w' hz hx ho; have HX := Lib.hid hx; have HR := Lib.hid (onlyHeap ho HR.out (by omega)); have HB := Lib.hid (onlyBelow HB.out ho (by omega) (Nat.le_refl _)); clear hz hx ho)
    | (refine wpList_load_mid rfl 51 _ rfl (w.heap.size + 1) 0 rfl _ _ (heap_all HX.out) Try.underlying51 rfl (by kernel_rfl) ?_)
    | (refine wpList_storeAll rfl 51 _ _ rfl w.heap.size _ _ rfl rfl HR.out rfl (by kernel_rfl) (by kernel_rfl) ?_; intro w' hz hr ho; have HR := Lib.hid hr; have HB := Lib.hid (onlyBelow HB.out ho (Nat.le_refl _) (Nat.le_refl _)); clear hz hr ho))
  refine bodyPost_ret (results_cell2 rfl _ _ w.heap.size 51 _ (0, 0) _ rfl HR.out Try.underlying51 rfl (by kernel_rfl)) rfl ?_
  exact ⟨by kernel_rfl, HB.out⟩
set_option maxHeartbeats 2000000 in
theorem shape_10 (w : World) : Calls Try.prog 20 #[.int .i64 10] w (ShpP 10 w) := by
  have HA := Lib.hid (fun n W => gAtMost_any n W)
  have HN := Lib.hid (fun n W => numbersFrom_any n W)
  have HL := Lib.hid (fun W => anyLength_any W)
  obtain ⟨x1, x2, x3⟩ := box2B w (shC shZ) (shC shZ) 51 51
  go_enter Try.func20, Try.ntmps20
  go_upto_region 2 with fail
  generalize hw0 : (w.alloc _).alloc _ = w0 at *
  have HR := Lib.hid x1
  have HX := Lib.hid x2
  have HB := Lib.hid x3
  clear x1 x2 x3 hw0
  go_wp2_with (first
    | (go_at_call 40; refine (HA.out _ _).mono ?_; rintro e w' ⟨rfl, hb⟩; have HX := Lib.hid (heapB HX.out hb); have HR := Lib.hid (heapB HR.out hb); have HB := Lib.hid (bel2M HB.out hb); clear hb)
    | (go_at_call 41; refine (HN.out _ _).mono ?_; rintro e w' ⟨rfl, hb⟩; have HX := Lib.hid (heapB HX.out hb); have HR := Lib.hid (heapB HR.out hb); have HB := Lib.hid (bel2M HB.out hb); clear hb)
    | (go_at_call 42; refine (HL.out _).mono ?_; rintro e w' ⟨rfl, hb⟩; have HX := Lib.hid (heapB HX.out hb); have HR := Lib.hid (heapB HR.out hb); have HB := Lib.hid (bel2M HB.out hb); clear hb)
    | (refine wpList_store2 rfl _ _ rfl (w.heap.size + 1) _ _ _ _ _ 51 rfl rfl HX.out rfl rfl (by decide) rfl ?_; intro w' hz hx ho; have HX := Lib.hid hx; have HR := Lib.hid (onlyHeap ho HR.out (by omega)); have HB := Lib.hid (onlyBelow HB.out ho (by omega) (Nat.le_refl _)); clear hz hx ho)
    | (refine wpList_store1 rfl _ _ rfl (w.heap.size + 1) _ _ _ _ 51 rfl rfl HX.out (by decide) rfl ?_; intro w' hz hx ho; have HX := Lib.hid hx; have HR := Lib.hid (onlyHeap ho HR.out (by omega)); have HB := Lib.hid (onlyBelow HB.out ho (by omega) (Nat.le_refl _)); clear hz hx ho)
    | (refine wpList_load_mid rfl 51 _ rfl (w.heap.size + 1) 0 rfl _ _ (heap_all HX.out) Try.underlying51 rfl (by kernel_rfl) ?_)
    | (refine wpList_storeAll rfl 51 _ _ rfl w.heap.size _ _ rfl rfl HR.out rfl (by kernel_rfl) (by kernel_rfl) ?_; intro w' hz hr ho; have HR := Lib.hid hr; have HB := Lib.hid (onlyBelow HB.out ho (Nat.le_refl _) (Nat.le_refl _)); clear hz hr ho))
  refine bodyPost_ret (results_cell2 rfl _ _ w.heap.size 51 _ (0, 0) _ rfl HR.out Try.underlying51 rfl (by kernel_rfl)) rfl ?_
  exact ⟨by kernel_rfl, HB.out⟩
set_option maxHeartbeats 2000000 in
theorem shape_11 (w : World) : Calls Try.prog 20 #[.int .i64 11] w (ShpP 11 w) := by
  have HA := Lib.hid (fun n W => gAtMost_any n W)
  have HN := Lib.hid (fun n W => numbersFrom_any n W)
  have HL := Lib.hid (fun W => anyLength_any W)
  obtain ⟨x1, x2, x3⟩ := box2B w (shC shZ) (shC shZ) 51 51
  go_enter Try.func20, Try.ntmps20
  go_upto_region 2 with fail
  generalize hw0 : (w.alloc _).alloc _ = w0 at *
  have HR := Lib.hid x1
  have HX := Lib.hid x2
  have HB := Lib.hid x3
  clear x1 x2 x3 hw0
  go_wp2_with (first
    | (go_at_call 40; refine (HA.out _ _).mono ?_; rintro e w' ⟨rfl, hb⟩; have HX := Lib.hid (heapB HX.out hb); have HR := Lib.hid (heapB HR.out hb); have HB := Lib.hid (bel2M HB.out hb); clear hb)
    | (go_at_call 41; refine (HN.out _ _).mono ?_; rintro e w' ⟨rfl, hb⟩; have HX := Lib.hid (heapB HX.out hb); have HR := Lib.hid (heapB HR.out hb); have HB := Lib.hid (bel2M HB.out hb); clear hb)
    | (go_at_call 42; refine (HL.out _).mono ?_; rintro e w' ⟨rfl, hb⟩; have HX := Lib.hid (heapB HX.out hb); have HR := Lib.hid (heapB HR.out hb); have HB := Lib.hid (bel2M HB.out hb); clear hb)
    | (refine wpList_store2 rfl _ _ rfl (w.heap.size + 1) _ _ _ _ _ 51 rfl rfl HX.out rfl rfl (by decide) rfl ?_; intro w' hz hx ho; have HX := Lib.hid hx; have HR := Lib.hid (onlyHeap ho HR.out (by omega)); have HB := Lib.hid (onlyBelow HB.out ho (by omega) (Nat.le_refl _)); clear hz hx ho)
    | (refine wpList_store1 rfl _ _ rfl (w.heap.size + 1) _ _ _ _ 51 rfl rfl HX.out (by decide) rfl ?_; intro w' hz hx ho; have HX := Lib.hid hx; have HR := Lib.hid (onlyHeap ho HR.out (by omega)); have HB := Lib.hid (onlyBelow HB.out ho (by omega) (Nat.le_refl _)); clear hz hx ho)
    | (refine wpList_load_mid rfl 51 _ rfl (w.heap.size + 1) 0 rfl _ _ (heap_all HX.out) Try.underlying51 rfl (by kernel_rfl) ?_)
    | (refine wpList_storeAll rfl 51 _ _ rfl w.heap.size _ _ rfl rfl HR.out rfl (by kernel_rfl) (by kernel_rfl) ?_; intro w' hz hr ho; have HR := Lib.hid hr; have HB := Lib.hid (onlyBelow HB.out ho (Nat.le_refl _) (Nat.le_refl _)); clear hz hr ho))
  refine bodyPost_ret (results_cell2 rfl _ _ w.heap.size 51 _ (0, 0) _ rfl HR.out Try.underlying51 rfl (by kernel_rfl)) rfl ?_
  exact ⟨by kernel_rfl, HB.out⟩
set_option maxHeartbeats 2000000 in
theorem shape_no (k : Int) (w : World) (h2 : k ≠ 2) (h3 : k ≠ 3) (h4 : k ≠ 4) (h5 : k ≠ 5) (h1 : k ≠ 1) (h8 : k ≠ 8) (h6 : k ≠ 6) (h7 : k ≠ 7) (h9 : k ≠ 9) (h10 : k ≠ 10) (h11 : k ≠ 11) : Calls Try.prog 20 #[.int .i64 k] w (ShpP k w) := by
  have hs : shapeM k = (shZ, false) := by
    unfold shapeM
    rw [if_neg h2, if_neg h3, if_neg h4, if_neg h5, if_neg h1, if_neg h8, if_neg h6, if_neg h7, if_neg h9, if_neg h10, if_neg h11]
  unfold ShpP
  rw [hs]
  have b2 : (k == 2) = false := by simpa using h2
  have b3 : (k == 3) = false := by simpa using h3
  have b4 : (k == 4) = false := by simpa using h4
  have b5 : (k == 5) = false := by simpa using h5
  have b1 : (k == 1) = false := by simpa using h1
  have b8 : (k == 8) = false := by simpa using h8
  have b6 : (k == 6) = false := by simpa using h6
  have b7 : (k == 7) = false := by simpa using h7
  have b9 : (k == 9) = false := by simpa using h9
  have b10 : (k == 10) = false := by simpa using h10
  have b11 : (k == 11) = false := by simpa using h11
  have HA := Lib.hid (fun n W => gAtMost_any n W)
  have HN := Lib.hid (fun n W => numbersFrom_any n W)
  have HL := Lib.hid (fun W => anyLength_any W)
  obtain ⟨x1, x2, x3⟩ := box2B w (shC shZ) (shC shZ) 51 51
  go_enter Try.func20, Try.ntmps20
  go_upto_region 2 with fail
  generalize hw0 : (w.alloc _).alloc _ = w0 at *
  have HR := Lib.hid x1
  have HX := Lib.hid x2
  have HB := Lib.hid x3
  clear x1 x2 x3 hw0
  go_wp2_with (first
    | (go_at_call 40; refine (HA.out _ _).mono ?_; rintro e w' ⟨rfl, hb⟩; have HX := Lib.hid (heapB HX.out hb); have HR := Lib.hid (heapB HR.out hb); have HB := Lib.hid (bel2M HB.out hb); clear hb)
    | (go_at_call 41; refine (HN.out _ _).mono ?_; rintro e w' ⟨rfl, hb⟩; have HX := Lib.hid (heapB HX.out hb); have HR := Lib.hid (heapB HR.out hb); have HB := Lib.hid (bel2M HB.out hb); clear hb)
    | (go_at_call 42; refine (HL.out _).mono ?_; rintro e w' ⟨rfl, hb⟩; have HX := Lib.hid (heapB HX.out hb); have HR := Lib.hid (heapB HR.out hb); have HB := Lib.hid (bel2M HB.out hb); clear hb)
    | (refine wpList_store2 rfl _ _ rfl (w.heap.size + 1) _ _ _ _ _ 51 rfl rfl HX.out rfl rfl (by decide) rfl ?_; intro w' hz hx ho; have HX := Lib.hid hx; have HR := Lib.hid (onlyHeap ho HR.out (by omega)); have HB := Lib.hid (onlyBelow HB.out ho (by omega) (Nat.le_refl _)); clear hz hx ho)
    | (refine wpList_store1 rfl _ _ rfl (w.heap.size + 1) _ _ _ _ 51 rfl rfl HX.out (by decide) rfl ?_; intro w' hz hx ho; have HX := Lib.hid hx; have HR := Lib.hid (onlyHeap ho HR.out (by omega)); have HB := Lib.hid (onlyBelow HB.out ho (by omega) (Nat.le_refl _)); clear hz hx ho)
    | (refine wpList_load_mid rfl 51 _ rfl (w.heap.size + 1) 0 rfl _ _ (heap_all HX.out) Try.underlying51 rfl (by kernel_rfl) ?_)
    | (refine wpList_storeAll rfl 51 _ _ rfl w.heap.size _ _ rfl rfl HR.out rfl (by kernel_rfl) (by kernel_rfl) ?_; intro w' hz hr ho; have HR := Lib.hid hr; have HB := Lib.hid (onlyBelow HB.out ho (Nat.le_refl _) (Nat.le_refl _)); clear hz hr ho))
  refine bodyPost_ret (results_cell2 rfl _ _ w.heap.size 51 _ (0, 0) _ rfl HR.out Try.underlying51 rfl (by kernel_rfl)) rfl ?_
  exact ⟨by kernel_rfl, HB.out⟩
theorem gShape_any (k : Int) (w : World) : Calls Try.prog 20 #[.int .i64 k] w (ShpP k w) := by
  by_cases h2 : k = 2
  · subst h2; exact shape_2 w
  by_cases h3 : k = 3
  · subst h3; exact shape_3 w
  by_cases h4 : k = 4
  · subst h4; exact shape_4 w
  by_cases h5 : k = 5
  · subst h5; exact shape_5 w
  by_cases h1 : k = 1
  · subst h1; exact shape_1 w
  by_cases h8 : k = 8
  · subst h8; exact shape_8 w
  by_cases h6 : k = 6
  · subst h6; exact shape_6 w
  by_cases h7 : k = 7
  · subst h7; exact shape_7 w
  by_cases h9 : k = 9
  · subst h9; exact shape_9 w
  by_cases h10 : k = 10
  · subst h10; exact shape_10 w
  by_cases h11 : k = 11
  · subst h11; exact shape_11 w
  exact shape_no k w h2 h3 h4 h5 h1 h8 h6 h7 h9 h10 h11

def CrtP (w : World) (p : Addr) (c : Crt) : Prop := EnvP w p c.1 ∧ ∃ A cc, w.cell? ⟨p.block, p.off + 2, none⟩ = some (.slice A c.2.length cc) ∧ EnvK w A cc c.2
abbrev CrtK (w : World) : Option Addr → Nat → List Crt → Prop := RowM w 3 CrtP
theorem CrtP.below {w w' : World} {p : Addr} {c : Crt} (h : CrtP w p c) (hb : Below w.heap.size w w') (hl : p.block < w.heap.size) : CrtP w' p c := by
  obtain ⟨h1, A, cc, h2, h3⟩ := h
  exact ⟨h1.below hb hl, A, cc, cellM (p := ⟨p.block, p.off + 2, none⟩) hb hl h2, h3.below hb⟩
theorem CrtK.below {w w' : World} {A : Option Addr} {c : Nat} {l : List Crt} (h : CrtK w A c l) (hb : Below w.heap.size w w') : CrtK w' A c l := RowM.below (fun p x hl h => CrtP.below h hb hl) h hb.size
structure Plc where
  x : Option Addr × Nat
  b : Option Addr × Nat
  p : Option Addr × Nat
  q : Option Addr × Nat
abbrev msC (m : Msg) (P : Plc) : Array Value := #[.int .i64 m.k, .int .i64 m.v, .int .i64 m.s, .int .i64 m.c, .int .i64 m.t, .string (strB m.d), .slice P.x.1 m.x.length P.x.2, .int .i64 m.r.1, .int .i64 m.r.2, .slice P.b.1 m.b.length P.b.2, .slice P.p.1 m.p.length P.p.2, .slice P.q.1 m.q.length P.q.2]
abbrev agM (m : Msg) (P : Plc) : Value := .agg (msC m P)
structure MsgK (w : World) (m : Msg) (P : Plc) : Prop where
  x : Bs w (.slice P.x.1 m.x.length P.x.2) m.x
  b : EnvK w P.b.1 P.b.2 m.b
  p : EnvK w P.p.1 P.p.2 m.p
  q : CrtK w P.q.1 P.q.2 m.q
theorem MsgK.below {w w' : World} {m : Msg} {P : Plc} (h : MsgK w m P) (hb : Below w.heap.size w w') : MsgK w' m P := ⟨h.x.below hb (Nat.le_refl _), h.b.below hb, h.p.below hb, h.q.below hb⟩

abbrev SEv (w0 : World) (b : Nat) (s : Int) : World → Prop := fun W => Below w0.heap.size w0 W ∧ W.cell? ⟨b, 0, none⟩ = some (.int .i64 s)
theorem wellE_any (e : Int × List UInt8) (bv : Value) (w : World) : Calls Try.prog 45 #[agE e.1 bv] w (Ans (.bool (wellE e)) w) := by
  obtain ⟨s, l⟩ := e
  unfold wellE
  simp only
  have x1 := heap_alloc_new w (.cells #[.int .i64 s, bv] 45)
  have hb0 := alloc1B w (.cells #[.int .i64 s, bv] 45)
  have HN := Lib.hid (fun n W => numbersFrom_any n W)
  have HAL := Lib.hid (fun b n W => gAllow_any b n W)
  go_enter Try.func45, Try.ntmps45
  go_upto_region 1 with fail
  generalize hw0 : w.alloc _ = w0 at *
  have HK := Lib.hid (show ∀ W, Below w0.heap.size w0 W → SEv w0 w.heap.size s W from fun W h => ⟨h, cellB (rowCell x1 0 _ rfl) h⟩)
  have HB0 := Lib.hid hb0
  have HD := Lib.hid (show Below w0.heap.size w0 w0.drew from (Below.refl _ _).drew)
  clear x1 hb0 hw0
  go_region_held3 (SEv w0 w.heap.size s) (first | exact HK.out _ HD.out | exact HK.out _ HB1.out | exact HK.out _ HB2.out) (first
    | (go_at_call 41; refine (HN.out _ _).mono ?_; rintro e w1 ⟨rfl, hb⟩; have HB1 := Lib.hid (bel2M HD.out hb); clear hb)
    | (go_at_call 43; refine (HAL.out _ _ _).mono ?_; rintro e w2 ⟨rfl, hb⟩; have HB2 := Lib.hid (bel2M HB1.out hb); clear hb))
  go_wp2
  go_ret
  exact ⟨rfl, bel2M HB0.out HB2.out⟩
theorem env_open {w : World} {A : Option Addr} {c : Nat} {l : List (Int × List UInt8)} (h : EnvK w A c l) (k : Nat) (hk : k < l.length) : ∃ ad bv, A = some ad ∧ ad.block < w.heap.size ∧ w.cell? (ad.add (k * 2)) = some (.int .i64 l[k].1) ∧ w.cell? ⟨(ad.add (k * 2)).block, (ad.add (k * 2)).off + 1, none⟩ = some bv ∧ Bs w bv l[k].2 := by
  obtain ⟨ad, e1, e2, e3, bv, e4, e5⟩ := h.2.2.2 k hk
  exact ⟨ad, bv, e1, e2, e3, e4, e5⟩
theorem all_take_all {α : Type} {P : α → Bool} {l : List α} (h : ∀ j (hj : j < l.length), P l[j] = true) : l.all P = true := by
  rw [List.all_eq_true]
  intro x hx
  obtain ⟨j, hj, rfl⟩ := List.getElem_of_mem hx
  exact h j hj
theorem all_take_no {α : Type} {P : α → Bool} {l : List α} (j : Nat) (hj : j < l.length) (h : P l[j] = false) : l.all P = false := by
  rw [List.all_eq_false]
  exact ⟨_, List.getElem_mem hj, by rw [h]; decide⟩
set_option maxHeartbeats 1000000 in
theorem eachE_any (A : Option Addr) (c : Nat) (l : List (Int × List UInt8)) (b : Int × Int) (w : World) (h : EnvK w A c l) : Calls Try.prog 44 #[.slice A l.length c, agBd b, .func (Fn.func 45) #[] #[]] w (Ans (.bool (eachE l b)) w) := by
  have hm : l.length ≤ 9223372036854775807 := by have h1 := h.1; have h2 := h.2.1; unfold maxLen at h2; omega
  unfold eachE
  have HAL := Lib.hid (fun b n W => gAllow_any b n W)
  have HW := Lib.hid (fun e bv W => wellE_any e bv W)
  have HX := Lib.hid (fun k hk => env_open h k hk)
  have hb0 := alloc1B w (.cells #[.int .i64 b.1, .int .i64 b.2] 49)
  have HB0 := Lib.hid hb0
  clear h hb0
  cases ha : allowB b (l.length : Nat)
  · go_enter Try.func44, Try.ntmps44
    go_wp2_with (go_at_call 43; refine (HAL.out _ _ _).mono ?_; rintro e w1 ⟨rfl, hb⟩; have HB1 := Lib.hid (bel2M HB0.out hb); rw [ha]; clear hb)
    go_ret
    exact ⟨rfl, HB1.out⟩
  · go_enter Try.func44, Try.ntmps44
    go_wp2_with (go_at_call 43; refine (HAL.out _ _ _).mono ?_; rintro e w1 ⟨rfl, hb⟩; have HB1 := Lib.hid (bel2M HB0.out hb); rw [ha]; clear hb)
    go_loopw [16] (fun i wr => ∃ k : Nat, k ≤ l.length ∧ i = .int .i64 k ∧ Below w.heap.size w wr ∧ ∀ j (hj : j < l.length), j < k → wellE l[j] = true) (fun i _ => l.length - (intOf i).toNat)
    case atStart => exact ⟨0, Nat.zero_le _, rfl, HB1.out, fun j _ hj => absurd hj (Nat.not_lt_zero _)⟩
    case round =>
      obtain ⟨k, hk, rfl, hb, hall⟩ := hrel
      have HB := Lib.hid hb
      have HA := Lib.hid hall
      clear hb hall HB1
      by_cases hlt : k < l.length
      · have hltI : (k : Int) < (l.length : Int) := by omega
        obtain ⟨ad, bv, rfl, hbl, h1, h2, hbv⟩ := HX.out k hlt
        obtain ⟨BA, bc, rfl, -⟩ := hbv.open
        clear hbv
        have c1 := (HB.out.cell (p := ad.add (k * 2)) (by rw [block_add]; exact hbl)).trans h1
        have c2 := (HB.out.cell (p := ⟨(ad.add (k * 2)).block, (ad.add (k * 2)).off + 1, none⟩) (by rw [block_add]; exact hbl)).trans h2
        generalize hx : l[k] = x at h1 h2 c1 c2
        have HXX := Lib.hid hx
        have hq : ∃ q, wellE x = q := ⟨_, rfl⟩
        obtain ⟨q, hq⟩ := hq
        have HC := Lib.hid (fun W => show Calls Try.prog 45 #[.agg #[.int .i64 x.1, .slice BA x.2.length bc]] W (Ans (.bool q) W) from by have := HW.out x (.slice BA x.2.length bc) W; rw [hq] at this; exact this)
        have HQ := Lib.hid (show wellE l[k] = q by rw [hx]; exact hq)
        have HLT := Lib.hid hlt
        clear h1 h2 hq hx HXX
        generalize x.1 = s at *
        generalize x.2.length = bn at *
        cases q
        · go_wp2_with (go_at_call 45; refine (HC.out _).mono ?_; rintro e w3 ⟨rfl, hb⟩; have HB3 := Lib.hid (bel2M (bel2M HB.out (alloc1B _ _)) hb); clear hb)
          go_ret
          exact ⟨ret_bool (by rw [all_take_no k HLT.out HQ.out]; rfl), HB3.out⟩
        · go_wp2_with (go_at_call 45; refine (HC.out _).mono ?_; rintro e w3 ⟨rfl, hb⟩; have HB3 := Lib.hid (bel2M (bel2M HB.out (alloc1B _ _)) hb); clear hb)
          go_roundw
          case rel =>
            refine ⟨k + 1, by have := HLT.out; omega, by go_num, HB3.out, fun j hj hj1 => ?_⟩
            by_cases hjk : j < k
            · exact HA.out j hj hjk
            · obtain rfl : j = k := by omega
              exact HQ.out
          case measure => simp [intOf]; have := HLT.out; omega
      · obtain rfl : k = l.length := by omega
        have hltI : ¬ (l.length : Int) < (l.length : Int) := by omega
        go_wp2
        go_ret
        exact ⟨ret_bool (by rw [all_take_all (fun j hj => HA.out j hj hj)]), HB.out⟩
abbrev agCt (s : Int) (bv : Value) (A : Option Addr) (n c : Nat) : Value := .agg #[.int .i64 s, bv, .slice A n c]
abbrev SCt (w0 : World) (b : Nat) (s : Int) (bv v : Value) : World → Prop := fun W => Below w0.heap.size w0 W ∧ W.cell? ⟨b, 0, none⟩ = some (.int .i64 s) ∧ W.cell? ⟨b, 1, none⟩ = some bv ∧ W.cell? ⟨b, 2, none⟩ = some v
set_option maxHeartbeats 1000000 in
theorem wellC_any (e : Crt) (bv : Value) (A : Option Addr) (c : Nat) (w : World) (h : EnvK w A c e.2) : Calls Try.prog 47 #[agCt e.1.1 bv A e.2.length c] w (Ans (.bool (wellC e)) w) := by
  have x1 := heap_alloc_new w (.cells #[.int .i64 e.1.1, bv, .slice A e.2.length c] 47)
  have hb0 := alloc1B w (.cells #[.int .i64 e.1.1, bv, .slice A e.2.length c] 47)
  have HA := Lib.hid (fun n W => gAtMost_any n W)
  have hE := fun W (hb : Below w.heap.size w W) => eachE_any A c e.2 (0, 7) W (h.below hb)
  have hW := fun W => wellE_any e.1 bv W
  unfold wellC
  generalize hq1 : wellE e.1 = q1 at *
  generalize hq2 : eachE e.2 (0, 7) = q2 at *
  have HE := Lib.hid hE
  have HW := Lib.hid hW
  clear h hE hW hq1 hq2
  generalize e.1.1 = s at *
  generalize e.2.length = n at *
  go_enter Try.func47, Try.ntmps47
  go_upto_region 1 with fail
  generalize hw0 : w.alloc _ = w0 at *
  have HK := Lib.hid (show ∀ W, Below w0.heap.size w0 W → SCt w0 w.heap.size s bv (.slice A n c) W from fun W h => ⟨h, cellB (rowCell x1 0 _ rfl) h, cellB (rowCell x1 1 _ rfl) h, cellB (rowCell x1 2 _ rfl) h⟩)
  have HB0 := Lib.hid hb0
  have HD := Lib.hid (show Below w0.heap.size w0 w0.drew from (Below.refl _ _).drew)
  clear hb0 hw0
  cases q1
  · skip -- FALSE-BRANCH
    refine wp_region_held_drew (S := SCt w0 w.heap.size s bv (.slice A n c)) (by kernel_rfl) (HK.out _ HD.out) (fun hHeld => ?_)
    refine tk 0 ?_
    (try simp only [Act.put, sA, sB, sC])
    refine tk 1 ?_
    (try simp only [Act.put, sA, sB, sC])
    refine wpAnyH_ready (rs := [2]) (by kernel_rfl) (by simp) ?_
    refine AllReadyH.cons (o := ?o3) ?g3 (fun K hK => ?j3) AllReadyH.nil
    case g3 => (simp only [gA, gB, gC]; rfl)
    go_simp
    refine (HW.out _).mono ?_
    rintro e w1 ⟨rfl, hb⟩
    have HB1 := Lib.hid (bel2M HD.out hb)
    clear hb
    refine hK.out _ _ ?_ (fun hHeld => ?_)
    · (try dsimp only); exact HK.out _ HB1.out
    clear hK K
    (try simp only [Act.put, sA, sB, sC])
    refine tk 3 ?_
    (try simp only [Act.put, sA, sB, sC])
    refine sk 4 ?_
    (try simp only [Act.put, sA, sB, sC])
    refine sk 5 ?_
    (try simp only [Act.put, sA, sB, sC])
    refine sk 6 ?_
    (try simp only [Act.put, sA, sB, sC])
    refine sk 7 ?_
    (try simp only [Act.put, sA, sB, sC])
    refine tk 8 ?_
    (try simp only [Act.put, sA, sB, sC])
    refine tk 9 ?_
    (try simp only [Act.put, sA, sB, sC])
    refine wpAnyH_done (by kernel_rfl) ?_ _
    go_wp2
    go_ret
    exact ⟨rfl, bel2M HB0.out HB1.out⟩
  · go_region_held3 (SCt w0 w.heap.size s bv (.slice A n c)) (first | exact HK.out _ HD.out | exact HK.out _ HB1.out | exact HK.out _ HB2.out | exact HK.out _ HB3.out) (first
      | (go_at_call 45; refine (HW.out _).mono ?_; rintro e w1 ⟨rfl, hb⟩; have HB1 := Lib.hid (bel2M HD.out hb); clear hb)
      | (go_at_call 40; refine (HA.out _ _).mono ?_; rintro e w2 ⟨rfl, hb⟩; have HB2 := Lib.hid (bel2M HB1.out hb); clear hb)
      | (go_at_call 44; refine (HE.out _ (bel2M HB0.out HB2.out)).mono ?_; rintro e w3 ⟨rfl, hb⟩; have HB3 := Lib.hid (bel2M HB2.out hb); clear hb))
    go_wp2
    go_ret
    exact ⟨rfl, bel2M HB0.out HB3.out⟩
theorem crt_open {w : World} {A : Option Addr} {c : Nat} {l : List Crt} (h : CrtK w A c l) (k : Nat) (hk : k < l.length) : ∃ ad bv VA vc, A = some ad ∧ ad.block < w.heap.size ∧ w.cell? (ad.add (k * 3)) = some (.int .i64 l[k].1.1) ∧ w.cell? ⟨(ad.add (k * 3)).block, (ad.add (k * 3)).off + 1, none⟩ = some bv ∧ Bs w bv l[k].1.2 ∧
    w.cell? ⟨(ad.add (k * 3)).block, (ad.add (k * 3)).off + 2, none⟩ = some (.slice VA l[k].2.length vc) ∧ EnvK w VA vc l[k].2 := by
  obtain ⟨ad, e1, e2, ⟨e3, bv, e4, e5⟩, VA, vc, e6, e7⟩ := h.2.2.2 k hk
  exact ⟨ad, bv, VA, vc, e1, e2, e3, e4, e5, e6, e7⟩
set_option maxHeartbeats 1000000 in
theorem eachC_any (A : Option Addr) (c : Nat) (l : List Crt) (b : Int × Int) (w : World) (h : CrtK w A c l) : Calls Try.prog 46 #[.slice A l.length c, agBd b, .func (Fn.func 47) #[] #[]] w (Ans (.bool (eachC l b)) w) := by
  have hm : l.length ≤ 9223372036854775807 := by have h1 := h.1; have h2 := h.2.1; unfold maxLen at h2; omega
  unfold eachC
  have HAL := Lib.hid (fun b n W => gAllow_any b n W)
  have HW := Lib.hid (fun e bv VA vc W h => wellC_any e bv VA vc W h)
  have HX := Lib.hid (fun k hk => crt_open h k hk)
  have hb0 := alloc1B w (.cells #[.int .i64 b.1, .int .i64 b.2] 49)
  have HB0 := Lib.hid hb0
  clear h hb0
  cases ha : allowB b (l.length : Nat)
  · go_enter Try.func46, Try.ntmps46
    go_wp2_with (go_at_call 43; refine (HAL.out _ _ _).mono ?_; rintro e w1 ⟨rfl, hb⟩; have HB1 := Lib.hid (bel2M HB0.out hb); rw [ha]; clear hb)
    go_ret
    exact ⟨rfl, HB1.out⟩
  · go_enter Try.func46, Try.ntmps46
    go_wp2_with (go_at_call 43; refine (HAL.out _ _ _).mono ?_; rintro e w1 ⟨rfl, hb⟩; have HB1 := Lib.hid (bel2M HB0.out hb); rw [ha]; clear hb)
    go_loopw [16] (fun i wr => ∃ k : Nat, k ≤ l.length ∧ i = .int .i64 k ∧ Below w.heap.size w wr ∧ ∀ j (hj : j < l.length), j < k → wellC l[j] = true) (fun i _ => l.length - (intOf i).toNat)
    case atStart => exact ⟨0, Nat.zero_le _, rfl, HB1.out, fun j _ hj => absurd hj (Nat.not_lt_zero _)⟩
    case round =>
      obtain ⟨k, hk, rfl, hb, hall⟩ := hrel
      have HB := Lib.hid hb
      have HA := Lib.hid hall
      clear hb hall HB1
      by_cases hlt : k < l.length
      · have hltI : (k : Int) < (l.length : Int) := by omega
        obtain ⟨ad, bv, VA, vc, rfl, hbl, h1, h2, hbv, h3, h4⟩ := HX.out k hlt
        obtain ⟨BA, bc, rfl, -⟩ := hbv.open
        clear hbv
        have c1 := (HB.out.cell (p := ad.add (k * 3)) (by rw [block_add]; exact hbl)).trans h1
        have c2 := (HB.out.cell (p := ⟨(ad.add (k * 3)).block, (ad.add (k * 3)).off + 1, none⟩) (by rw [block_add]; exact hbl)).trans h2
        have c3 := (HB.out.cell (p := ⟨(ad.add (k * 3)).block, (ad.add (k * 3)).off + 2, none⟩) (by rw [block_add]; exact hbl)).trans h3
        generalize hx : l[k] = x at h1 h2 h3 h4 c1 c2 c3
        have HXX := Lib.hid hx
        have hq : ∃ q, wellC x = q := ⟨_, rfl⟩
        obtain ⟨q, hq⟩ := hq
        have HC := Lib.hid (fun W (hb : Below w.heap.size w W) => show Calls Try.prog 47 #[.agg #[.int .i64 x.1.1, .slice BA x.1.2.length bc, .slice VA x.2.length vc]] W (Ans (.bool q) W) from by have := HW.out x (.slice BA x.1.2.length bc) VA vc W (h4.below hb); rw [hq] at this; exact this)
        have HQ := Lib.hid (show wellC l[k] = q by rw [hx]; exact hq)
        have HLT := Lib.hid hlt
        clear h1 h2 h3 h4 hq hx HXX
        generalize x.1.1 = s at *
        generalize x.1.2.length = bn at *
        generalize x.2.length = vn at *
        cases q
        · go_wp2_with (go_at_call 47; refine (HC.out _ (bel2M HB.out (alloc1B _ _))).mono ?_; rintro e w3 ⟨rfl, hb⟩; have HB3 := Lib.hid (bel2M (bel2M HB.out (alloc1B _ _)) hb); clear hb)
          go_ret
          exact ⟨ret_bool (by rw [all_take_no k HLT.out HQ.out]; rfl), HB3.out⟩
        · go_wp2_with (go_at_call 47; refine (HC.out _ (bel2M HB.out (alloc1B _ _))).mono ?_; rintro e w3 ⟨rfl, hb⟩; have HB3 := Lib.hid (bel2M (bel2M HB.out (alloc1B _ _)) hb); clear hb)
          go_roundw
          case rel =>
            refine ⟨k + 1, by have := HLT.out; omega, by go_num, HB3.out, fun j hj hj1 => ?_⟩
            by_cases hjk : j < k
            · exact HA.out j hj hjk
            · obtain rfl : j = k := by omega
              exact HQ.out
          case measure => simp [intOf]; have := HLT.out; omega
      · obtain rfl : k = l.length := by omega
        have hltI : ¬ (l.length : Int) < (l.length : Int) := by omega
        go_wp2
        go_ret
        exact ⟨ret_bool (by rw [all_take_all (fun j hj => HA.out j hj hj)]), HB.out⟩

theorem nil_ownG (W : World) (B : Nat) : W.ownsRow B 5 1 (.slice none 0 0) ([] : List UInt8).length (([] : List UInt8).map bc) := World.ownsRow_nil W _ _ _
theorem puts_nil (w w' : World) (hb : Below w.heap.size w w') : Puts w [] (.returned (.slice none 0 0)) w' := ⟨_, rfl, nil_ownG _ _, hb⟩
theorem gPutInt_any (n : Int) (w : World) : Calls Try.prog 33 #[.int .i64 n] w (Puts w (i8B n)) := by
  have HP := Lib.hid (show Calls Try.prog 64 #[.slice none 0 0, .int .i64 n] w (Puts w (i8B n)) from PutInt_any (.slice none 0 0) [] n w (Bs.nil w) (by simp))
  go_enter Try.func33, Try.ntmps33
  go_wp2_with (go_at_call 64; refine HP.out.mono ?_; rintro e w1 ⟨v1, rfl, ho1, hb1⟩)
  go_ret
  exact ⟨v1, rfl, ho1, hb1⟩
theorem puts_from {w w0 w1 : World} {l : List UInt8} {v : Value} (hb : Below w.heap.size w w0) (ho : w1.ownsRow w0.heap.size 5 1 v l.length (l.map bc)) (hb1 : Below w0.heap.size w0 w1) : Puts w l (.returned v) w1 := ⟨v, rfl, own_mono ho hb.size, bel2M hb hb1⟩
theorem bPutInt_any (b : Int × Int) (n : Int) (w : World) : Calls Try.prog 34 #[agBd b, .int .i64 n] w (Puts w (numP b n)) := by
  have HB0 := Lib.hid (alloc1B w (.cells #[.int .i64 b.1, .int .i64 b.2] 49))
  have HC := Lib.hid (fun W => show Calls Try.prog 65 #[.agg #[.int .i64 b.1, .int .i64 b.2]] W (Ans (.bool (countB b)) W) from gCount_any b W)
  have HP := Lib.hid (fun W => gPutInt_any n W)
  unfold numP
  cases hc : countB b
  · rw [hc] at HC
    go_enter Try.func34, Try.ntmps34
    go_wp2_with (go_at_call 65; refine (HC.out _).mono ?_; rintro e w1 ⟨rfl, hb⟩; have HB1 := Lib.hid (bel2M HB0.out hb); clear hb)
    go_ret
    exact puts_nil _ _ HB1.out
  · rw [hc] at HC
    go_enter Try.func34, Try.ntmps34
    go_wp2_with (first
      | (go_at_call 65; refine (HC.out _).mono ?_; rintro e w1 ⟨rfl, hb⟩; have HB1 := Lib.hid (bel2M HB0.out hb); clear hb)
      | (go_at_call 33; refine (HP.out _).mono ?_; rintro e w2 ⟨v2, rfl, ho2, hb2⟩))
    go_ret
    exact puts_from HB1.out ho2 hb2
theorem bPutBytes_any (b : Int × Int) (v : Value) (l : List UInt8) (w : World) (hv : Bs w v l) (hl : l.length ≤ 1000000000) : Calls Try.prog 35 #[agBd b, v] w (Puts w (rowP b l)) := by
  have HB0 := Lib.hid (alloc1B w (.cells #[.int .i64 b.1, .int .i64 b.2] 49))
  have HC := Lib.hid (fun W => show Calls Try.prog 65 #[.agg #[.int .i64 b.1, .int .i64 b.2]] W (Ans (.bool (countB b)) W) from gCount_any b W)
  have HP := Lib.hid (fun W (hb : Below w.heap.size w W) => show Calls Try.prog 58 #[.slice none 0 0, v] W (Puts W (partB l)) from by
    have := PutBytes_any (.slice none 0 0) v [] l W (Bs.nil W) (hv.below hb (Nat.le_refl _)) (by simp) (by omega)
    simpa [partB] using this)
  unfold rowP
  clear hv
  cases hc : countB b
  · rw [hc] at HC
    go_enter Try.func35, Try.ntmps35
    go_wp2_with (go_at_call 65; refine (HC.out _).mono ?_; rintro e w1 ⟨rfl, hb⟩; have HB1 := Lib.hid (bel2M HB0.out hb); clear hb)
    go_ret
    exact puts_nil _ _ HB1.out
  · rw [hc] at HC
    go_enter Try.func35, Try.ntmps35
    go_wp2_with (first
      | (go_at_call 65; refine (HC.out _).mono ?_; rintro e w1 ⟨rfl, hb⟩; have HB1 := Lib.hid (bel2M HB0.out hb); clear hb)
      | (go_at_call 58; refine (HP.out _ HB1.out).mono ?_; rintro e w2 ⟨v2, rfl, ho2, hb2⟩))
    go_ret
    exact puts_from HB1.out ho2 hb2
abbrev SEp (w0 : World) (b : Nat) (s : Int) (bv : Value) : World → Prop := fun W => Below w0.heap.size w0 W ∧ W.cell? ⟨b, 0, none⟩ = some (.int .i64 s) ∧ W.cell? ⟨b, 1, none⟩ = some bv
set_option maxHeartbeats 1000000 in
theorem gPutEnv_any (e : Int × List UInt8) (bv : Value) (w : World) (hv : Bs w bv e.2) (hl : e.2.length ≤ 1000000) : Calls Try.prog 27 #[agE e.1 bv] w (Puts w (envW e)) := by
  obtain ⟨i0, hi, hz0, hz1, hz2⟩ := info_parts u8info
  obtain ⟨BA, bc0, rfl, -⟩ := hv.open
  have x1 := heap_alloc_new w (.cells #[.int .i64 e.1, .slice BA e.2.length bc0] 45)
  have hb0 := alloc1B w (.cells #[.int .i64 e.1, .slice BA e.2.length bc0] 45)
  have HI := Lib.hid (fun W => gPutInt_any e.1 W)
  have HP := Lib.hid (fun W (hb : Below w.heap.size w W) => show Calls Try.prog 58 #[.slice none 0 0, .slice BA e.2.length bc0] W (Puts W (partB e.2)) from by
    have := PutBytes_any (.slice none 0 0) _ [] e.2 W (Bs.nil W) (hv.below hb (Nat.le_refl _)) (by simp) (by omega)
    simpa [partB] using this)
  unfold envW
  have hq : (i8B e.1).length + ((partB e.2).map bc).length ≤ 2000000 := by rw [List.length_map, i8B_length, partB_length]; omega
  have HQ := Lib.hid hq
  generalize i8B e.1 = l1 at *
  generalize partB e.2 = l2 at *
  generalize e.2.length = n at *
  generalize e.1 = s at *
  go_enter Try.func27, Try.ntmps27
  go_upto_region 1 with fail
  generalize hw0 : w.alloc _ = w0 at *
  have HK := Lib.hid (show ∀ W, Below w0.heap.size w0 W → SEp w0 w.heap.size s (.slice BA n bc0) W from fun W h => ⟨h, cellB (rowCell x1 0 _ rfl) h, cellB (rowCell x1 1 _ rfl) h⟩)
  have HB0 := Lib.hid hb0
  have HD := Lib.hid (show Below w0.heap.size w0 w0.drew from (Below.refl _ _).drew)
  clear x1 hb0 hw0 hv hl hq
  go_region_held3 (SEp w0 w.heap.size s (.slice BA n bc0)) (first | exact HK.out _ HD.out | exact HK.out _ HB1.out | exact HK.out _ HB2.out | exact HK.out _ HB3.out) (first
    | (go_at_call 33; refine (HI.out _).mono ?_; rintro e w1 ⟨v1, rfl, ho1, hb⟩; have HB1 := Lib.hid (bel2M HD.out hb); have HO1 := Lib.hid ho1; clear hb ho1)
    | (go_at_call 58; refine (HP.out _ (bel2M HB0.out HB1.out)).mono ?_; rintro e w2 ⟨v2, rfl, ho2, hb⟩; have HO1 := Lib.hid (own_belowM HO1.out hb); have HB2 := Lib.hid (bel2M HB1.out hb); have HV2 := Lib.hid (own_bs ho2); clear hb ho2)
    | (refine step_append_rd rfl (.tmp 5) (.tmp 8) 23 rfl w0.drew.heap.size 5 i0 (.int .u8 0) 1 Try.underlying23 hi hz0 hz1 hz2 rfl _ _ _ rfl HO1.out _ _ rfl HV2.out (bc_one _) (by have := HQ.out; unfold maxLen; omega) (by have := HQ.out; omega) HB2.out.size ?_; intro v3 w3 hown3 hg3 hob3; rw [← List.map_append, List.length_map, ← List.length_append] at hown3; have HO3 := Lib.hid hown3; have HB3 := Lib.hid (HB2.out.grown hg3 HB2.out.size (fun g hg => (HO1.out.lt g hg).1)); clear hown3 hg3 hob3))
  go_wp2
  go_ret
  exact ⟨v3, rfl, own_mono HO3.out HB0.out.size, bel2M HB0.out HB3.out⟩
set_option maxHeartbeats 1000000 in
theorem gPutRes_any (s : Shp) (r : Int × Int) (w : World) : Calls Try.prog 36 #[.agg (shC s), .agg #[.int .i64 r.1, .int .i64 r.2]] w (Puts w (resP s.r r)) := by
  obtain ⟨i0, hi, hz0, hz1, hz2⟩ := info_parts u8info
  obtain ⟨x1, x2, x3⟩ := box2B w (shC s) #[.int .i64 r.1, .int .i64 r.2] 51 26
  have HI := Lib.hid (fun n W => gPutInt_any n W)
  unfold resP
  have y12 := rowCell x1 12 (.bool s.r) rfl
  cases hr : s.r
  · rw [hr] at y12
    go_enter Try.func36, Try.ntmps36
    go_wp2
    go_ret
    exact puts_nil _ _ x3
  · rw [hr] at y12
    have HQ := Lib.hid (show (i8B r.1).length + ((i8B r.2).map bc).length ≤ 2000000 by rw [List.length_map, i8B_length, i8B_length]; omega)
    have HI1 := Lib.hid (fun W => gPutInt_any r.1 W)
    have HI2 := Lib.hid (fun W => gPutInt_any r.2 W)
    clear HI
    generalize i8B r.1 = l1 at *
    generalize i8B r.2 = l2 at *
    obtain ⟨rc, rs⟩ := r
    simp only at *
    go_enter Try.func36, Try.ntmps36
    go_upto_region 3 with fail
    generalize hw0 : (w.alloc _).alloc _ = w0 at *
    have HK := Lib.hid (show ∀ W, Below w0.heap.size w0 W → Below w0.heap.size w0 W ∧ W.cell? ⟨w.heap.size + 1, 0, none⟩ = some (.int .i64 rc) ∧ W.cell? ⟨w.heap.size + 1, 1, none⟩ = some (.int .i64 rs) from fun W h => ⟨h, cellB (rowCell x2 0 _ rfl) h, cellB (rowCell x2 1 _ rfl) h⟩)
    have HB0 := Lib.hid x3
    have HD := Lib.hid (show Below w0.heap.size w0 w0.drew from (Below.refl _ _).drew)
    clear x1 x2 x3 hw0 y12
    go_region_held3 (fun W => Below w0.heap.size w0 W ∧ W.cell? ⟨w.heap.size + 1, 0, none⟩ = some (.int .i64 rc) ∧ W.cell? ⟨w.heap.size + 1, 1, none⟩ = some (.int .i64 rs)) (first | exact HK.out _ HD.out | exact HK.out _ HB1.out | exact HK.out _ HB2.out | exact HK.out _ HB3.out) (first
      | (go_at_call_of 33 ([Value.int .i64 rc]); refine (HI1.out _).mono ?_; rintro e w1 ⟨v1, rfl, ho1, hb⟩; have HB1 := Lib.hid (bel2M HD.out hb); have HO1 := Lib.hid ho1; clear hb ho1)
      | (go_at_call_of 33 ([Value.int .i64 rs]); refine (HI2.out _).mono ?_; rintro e w2 ⟨v2, rfl, ho2, hb⟩; have HO1 := Lib.hid (own_belowM HO1.out hb); have HB2 := Lib.hid (bel2M HB1.out hb); have HV2 := Lib.hid (own_bs ho2); clear hb ho2)
      | (refine step_append_rd rfl (.tmp 10) (.tmp 13) 23 rfl w0.drew.heap.size 5 i0 (.int .u8 0) 1 Try.underlying23 hi hz0 hz1 hz2 rfl _ _ _ rfl HO1.out _ _ rfl HV2.out (bc_one _) (by have := HQ.out; unfold maxLen; omega) (by have := HQ.out; omega) HB2.out.size ?_; intro v3 w3 hown3 hg3 hob3; rw [← List.map_append, List.length_map, ← List.length_append] at hown3; have HO3 := Lib.hid hown3; have HB3 := Lib.hid (HB2.out.grown hg3 HB2.out.size (fun g hg => (HO1.out.lt g hg).1)); clear hown3 hg3 hob3))
    go_wp2
    go_ret
    exact ⟨v3, rfl, own_mono HO3.out HB0.out.size, bel2M HB0.out HB3.out⟩

def briefE (l : List (Int × List UInt8)) : Bool := decide (l.length ≤ 30) && l.all fun e => decide (e.2.length ≤ 500)
theorem briefE_iff {l : List (Int × List UInt8)} : briefE l = true ↔ l.length ≤ 30 ∧ ∀ e ∈ l, e.2.length ≤ 500 := by simp [briefE]
theorem envW_length (e : Int × List UInt8) : (envW e).length = 12 + e.2.length := by
  unfold envW
  rw [List.length_append, i8B_length, partB_length]; omega

def AskB (x : Bool) (w : World) (e : Ending) (w' : World) : Prop := e = .returned (.bool x) ∧ Below w.heap.size w w'

set_option maxHeartbeats 1000000 in
theorem brief_any (A : Option Addr) (c : Nat) (l : List (Int × List UInt8)) (w : World) (h : EnvK w A c l) : Calls Try.prog 15 #[.slice A l.length c] w (AskB (briefE l) w) := by
  have hm : l.length ≤ 9223372036854775807 := by have h1 := h.1; have h2 := h.2.1; unfold maxLen at h2; omega
  unfold briefE
  have HX := Lib.hid (fun k hk => env_open h k hk)
  clear h
  by_cases h30 : l.length ≤ 30
  · have hI : ¬ (30 : Int) < (l.length : Int) := by omega
    rw [decide_eq_true h30, Bool.true_and]
    go_enter Try.func15, Try.ntmps15
    go_wp2
    go_loopw [3] (fun i wr => ∃ k : Nat, k ≤ l.length ∧ i = .int .i64 k ∧ wr = w ∧ ∀ j (hj : j < l.length), j < k → decide (l[j].2.length ≤ 500) = true) (fun i _ => l.length - (intOf i).toNat)
    case atStart => exact ⟨0, Nat.zero_le _, rfl, (by first | rfl | trivial), fun j _ hj => absurd hj (Nat.not_lt_zero _)⟩
    case round =>
      obtain ⟨k, hk, rfl, rfl, hall⟩ := hrel
      have HA := Lib.hid hall
      clear hall
      by_cases hlt : k < l.length
      · have hltI : (k : Int) < (l.length : Int) := by omega
        obtain ⟨ad, bv, rfl, hbl, h1, h2, h3⟩ := HX.out k hlt
        obtain ⟨BA, bc1, rfl, -⟩ := h3.open
        have HLT := Lib.hid hlt
        by_cases h500 : l[k].2.length ≤ 500
        · have hq : ¬ (500 : Int) < (l[k].2.length : Int) := by omega
          go_wp2
          go_roundw
          case rel =>
            refine ⟨k + 1, by have := HLT.out; omega, by go_num, (by first | trivial | rfl), fun j hj hj1 => ?_⟩
            by_cases hjk : j < k
            · exact HA.out j hj hjk
            · obtain rfl : j = k := by omega
              exact decide_eq_true h500
          case measure => simp [intOf]; have := HLT.out; omega
        · have hq : (500 : Int) < (l[k].2.length : Int) := by omega
          go_wp2
          go_ret
          exact ⟨ret_bool (all_take_no k HLT.out (decide_eq_false h500)).symm, Below.refl _ _⟩
      · obtain rfl : k = l.length := by omega
        have hltI : ¬ (l.length : Int) < (l.length : Int) := by omega
        go_wp2
        go_ret
        exact ⟨ret_bool (all_take_all (fun j hj => HA.out j hj hj)).symm, Below.refl _ _⟩
  · have hI : (30 : Int) < (l.length : Int) := by omega
    rw [decide_eq_false h30, Bool.false_and]
    go_enter Try.func15, Try.ntmps15
    go_wp2
    go_ret
    exact ⟨rfl, Below.refl _ _⟩

def simO (ops : Array Oper) (o : Oper) (a : Act) : Option Act :=
  match Region.wanted o (yielded ops a.tmps) with
  | false => some (a.put o.dst undef)
  | true => match o.op with
    | .move x => some (a.put o.dst (a.eval x))
    | .assign x => some (a.put o.dst (a.eval x))
    | .pick c x y => match a.eval c with
      | .bool true => some (a.put o.dst (a.eval x))
      | .bool false => some (a.put o.dst (a.eval y))
      | _ => none
    | _ => none
def simA (ops : Array Oper) : List Oper → Act → Option Act
  | [], a => some a
  | o :: rest, a => match simO ops o a with
    | some b => simA ops rest b
    | none => none
theorem simO_wp {P : Program} {ops : Array Oper} {Q : Exit → Act → World → Prop} {w : World} {rest : List Oper} {o : Oper} {a b : Act} (h : simO ops o a = some b) (h2 : wpList P ops Q rest b w) : wpList P ops Q (o :: rest) a w := by
  unfold simO at h
  split at h
  · rename_i hw
    injection h with h
    subst h
    exact wpList_skip hw h2
  · rename_i hw
    refine BigFrame.wpList_want hw fun K hK => ?_
    unfold Oper.wp execOp
    split at h
    · rename_i x hx
      injection h with h
      subst h
      simp only [hx, Sem.run_bind, Sem.run_pure, Result.andThen_ok]
      exact hK _ _ h2
    · rename_i x hx
      injection h with h
      subst h
      simp only [hx, Sem.run_bind, Sem.run_pure, Result.andThen_ok]
      exact hK _ _ h2
    · rename_i c x y hx
      split at h
      · rename_i hc
        injection h with h
        subst h
        simp [hx, hc, asBool, Sem.run_bind, Sem.run_pure, Result.andThen_ok]
        exact hK _ _ h2
      · rename_i hc
        injection h with h
        subst h
        simp [hx, hc, asBool, Sem.run_bind, Sem.run_pure, Result.andThen_ok]
        exact hK _ _ h2
      · cases h
    · cases h
theorem simA_wp {P : Program} {ops : Array Oper} {Q : Exit → Act → World → Prop} {w : World} : ∀ (rest : List Oper) (a b : Act), simA ops rest a = some b → Q .normal b w → wpList P ops Q rest a w
  | [], a, b, h, h2 => by
    unfold simA at h
    injection h with h
    subst h
    exact h2
  | o :: rest, a, b, h, h2 => by
    unfold simA at h
    split at h
    · rename_i b' hb
      exact simO_wp hb (simA_wp rest b' b h h2)
    · cases h
theorem sim_end {P : Program} {ops : Array Oper} {Q : Exit → Act → World → Prop} {w : World} {rest : List Oper} {a : Act} (r : Nat) (v : Value)
    (h : ((simA ops rest a).map fun b => (b.tmps[r]?, b.defers.isEmpty)) = some (some v, true)) (h2 : ∀ b : Act, b.tmps.getD r undef = v → b.defers = [] → Q .normal b w) : wpList P ops Q rest a w := by
  rcases hs : simA ops rest a with _ | b
  · rw [hs] at h; cases h
  · rw [hs] at h
    simp only [Option.map_some, Option.some.injEq, Prod.mk.injEq] at h
    refine simA_wp rest a b hs (h2 b ?_ (by simpa using h.2))
    simp only [Array.getD_eq_getD_getElem?, h.1, Option.getD_some]
theorem wpList_exec {P : Program} {ops : Array Oper} {rest : List Oper} {op : Oper} {a : Act} {w : World} {Q : Exit → Act → World → Prop} (hw : Region.wanted op (yielded ops a.tmps) = true) (v : Value) (w' : World)
    (hx : (execOp a.eval op).run P w = .ok (.value v) w') (h : wpList P ops Q rest (a.put op.dst v) w') : wpList P ops Q (op :: rest) a w :=
  BigFrame.wpList_want hw fun _ hK => by
    unfold Oper.wp
    rw [hx]
    exact hK _ _ h
theorem wpList_loadG {P : Program} {ops : Array Oper} {rest : List Oper} {op : Oper} {a : Act} {w : World} {Q : Exit → Act → World → Prop} (hw : Region.wanted op (yielded ops a.tmps) = true) (ty : TypeId) (x : Operand) (ho : op.op = .load ty x)
    (b o : Nat) (hx : a.eval x = .pointer (some ⟨b, o, none⟩)) (cs : List Value) (d : TypeDesc) (hc : w.rangeAt b o cs)
    (hu : P.underlying ty = some d) (hd : d.isRow = true) (hi : (P.info? ty).map (·.size) = some cs.length)
    (h : wpList P ops Q rest (a.put op.dst (.agg cs.toArray)) w) : wpList P ops Q (op :: rest) a w :=
  BigFrame.wpList_want hw fun _ hK => wp_load_mid ty x ho b o hx cs d hc hu hd hi (hK _ _ h)

def smallC12 (c : Crt) : Bool := decide (c.1.2.length ≤ 500) && briefE c.2
def few12 (m : Msg) : Bool := decide (m.d.length ≤ 2000) && decide (m.x.length ≤ 5000) && briefE m.b && briefE m.p && decide (m.q.length ≤ 20) && m.q.all smallC12
set_option maxHeartbeats 4000000 in
theorem few12_any (m : Msg) (P : Plc) (w : World) (h : MsgK w m P) : Calls Try.prog 8 #[agM m P] w (AskB (few12 m) w) := by
  obtain ⟨PX, PB, PP, QA, qc⟩ := P
  have key : ∀ x, few12 m = x → Calls Try.prog 8 #[agM m ⟨PX, PB, PP, QA, qc⟩] w (AskB x w) → Calls Try.prog 8 #[agM m ⟨PX, PB, PP, QA, qc⟩] w (AskB (few12 m) w) := fun x h hc => by rw [h]; exact hc
  have x1 := heap_alloc_new w (.cells (msC m ⟨PX, PB, PP, QA, qc⟩) 30)
  have hb0 := alloc1B w (.cells (msC m ⟨PX, PB, PP, QA, qc⟩) 30)
  have HX := Lib.hid x1
  have HB := Lib.hid hb0
  have hsz := strB_size m.d
  have HF1 := Lib.hid (fun W (hb : Below w.heap.size w W) => brief_any PB.1 PB.2 m.b W (h.b.below hb))
  have HF2 := Lib.hid (fun W (hb : Below w.heap.size w W) => brief_any PP.1 PP.2 m.p W (h.p.below hb))
  have HF3 := Lib.hid (fun A c (l : List (Int × List UInt8)) W (hk : EnvK W A c l) => brief_any A c l W hk)
  have hqm : m.q.length ≤ 9223372036854775807 := by have h1 := h.q.1; have h2 := h.q.2.1; unfold maxLen at h2; omega
  have HQ := Lib.hid (fun k hk => crt_open h.q k hk)
  clear x1 hb0
  by_cases n1 : ¬ m.d.length ≤ 2000
  · refine key false (by simp [few12, n1]) ?_
    have i1 : (2000 : Int) < (m.d.length : Int) := by omega
    go_enter Try.func8, Try.ntmps8
    go_wp2
    go_ret
    exact ⟨rfl, HB.out⟩
  have h1 := Decidable.not_not.1 n1
  have i1 : ¬ (2000 : Int) < (m.d.length : Int) := by omega
  by_cases n2 : ¬ m.x.length ≤ 5000
  · refine key false (by simp [few12, n2]) ?_
    have i2 : (5000 : Int) < (m.x.length : Int) := by omega
    go_enter Try.func8, Try.ntmps8
    go_wp2
    go_ret
    exact ⟨rfl, HB.out⟩
  have h2 := Decidable.not_not.1 n2
  have i2 : ¬ (5000 : Int) < (m.x.length : Int) := by omega
  rcases h3 : briefE m.b with _ | _
  · refine key false (by simp [few12, h3]) ?_
    rw [h3] at HF1
    go_enter Try.func8, Try.ntmps8
    go_wp2_with (first
      | (go_at_call_of 15 (Value.slice PB.1 m.b.length PB.2); refine (HF1.out _ HB.out).mono ?_; rintro e w1 ⟨rfl, hb⟩; have HX := Lib.hid (heapB HX.out hb); have HB := Lib.hid (bel2M HB.out hb); have c10 := rowCell HX.out 10 (.slice PP.1 m.p.length PP.2) rfl; clear hb HF1))
    go_ret
    exact ⟨rfl, HB.out⟩
  rw [h3] at HF1
  rcases h4 : briefE m.p with _ | _
  · refine key false (by simp [few12, h4]) ?_
    rw [h4] at HF2
    go_enter Try.func8, Try.ntmps8
    go_wp2_with (first
      | (go_at_call_of 15 (Value.slice PB.1 m.b.length PB.2); refine (HF1.out _ HB.out).mono ?_; rintro e w1 ⟨rfl, hb⟩; have HX := Lib.hid (heapB HX.out hb); have HB := Lib.hid (bel2M HB.out hb); have c10 := rowCell HX.out 10 (.slice PP.1 m.p.length PP.2) rfl; clear hb HF1)
      | (go_at_call_of 15 (Value.slice PP.1 m.p.length PP.2); refine (HF2.out _ HB.out).mono ?_; rintro e w2 ⟨rfl, hb⟩; have HX := Lib.hid (heapB HX.out hb); have HB := Lib.hid (bel2M HB.out hb); have c11 := rowCell HX.out 11 (.slice QA m.q.length qc) rfl; clear hb HF2))
    go_ret
    exact ⟨rfl, HB.out⟩
  rw [h4] at HF2
  by_cases n5 : ¬ m.q.length ≤ 20
  · refine key false (by simp [few12, n5]) ?_
    have i5 : (20 : Int) < (m.q.length : Int) := by omega
    go_enter Try.func8, Try.ntmps8
    go_wp2_with (first
      | (go_at_call_of 15 (Value.slice PB.1 m.b.length PB.2); refine (HF1.out _ HB.out).mono ?_; rintro e w1 ⟨rfl, hb⟩; have HX := Lib.hid (heapB HX.out hb); have HB := Lib.hid (bel2M HB.out hb); have c10 := rowCell HX.out 10 (.slice PP.1 m.p.length PP.2) rfl; clear hb HF1)
      | (go_at_call_of 15 (Value.slice PP.1 m.p.length PP.2); refine (HF2.out _ HB.out).mono ?_; rintro e w2 ⟨rfl, hb⟩; have HX := Lib.hid (heapB HX.out hb); have HB := Lib.hid (bel2M HB.out hb); have c11 := rowCell HX.out 11 (.slice QA m.q.length qc) rfl; clear hb HF2))
    go_ret
    exact ⟨rfl, HB.out⟩
  have h5 := Decidable.not_not.1 n5
  have i5 : ¬ (20 : Int) < (m.q.length : Int) := by omega
  have hend : few12 m = m.q.all smallC12 := by simp [few12, h1, h2, h3, h4, h5]
  rw [hend]
  clear key hend n1 n2 n5 h1 h2 h3 h4
  go_enter Try.func8, Try.ntmps8
  go_wp2_with (first
    | (go_at_call_of 15 (Value.slice PB.1 m.b.length PB.2); refine (HF1.out _ HB.out).mono ?_; rintro e w1 ⟨rfl, hb⟩; have HX := Lib.hid (heapB HX.out hb); have HB := Lib.hid (bel2M HB.out hb); have c10 := rowCell HX.out 10 (.slice PP.1 m.p.length PP.2) rfl; clear hb HF1)
    | (go_at_call_of 15 (Value.slice PP.1 m.p.length PP.2); refine (HF2.out _ HB.out).mono ?_; rintro e w2 ⟨rfl, hb⟩; have HX := Lib.hid (heapB HX.out hb); have HB := Lib.hid (bel2M HB.out hb); have c11 := rowCell HX.out 11 (.slice QA m.q.length qc) rfl; clear hb HF2))
  go_loopw [3] (fun i wr => ∃ k : Nat, k ≤ m.q.length ∧ i = .int .i64 k ∧ Below w.heap.size w wr ∧ wr.heap[w.heap.size]? = some (.cells (msC m ⟨PX, PB, PP, QA, qc⟩) 30 (0, 0)) ∧ ∀ j (hj : j < m.q.length), j < k → smallC12 m.q[j] = true) (fun i _ => m.q.length - (intOf i).toNat)
  case atStart => exact ⟨0, Nat.zero_le _, rfl, HB.out, HX.out, fun j _ hj => absurd hj (Nat.not_lt_zero _)⟩
  case round =>
    obtain ⟨k, hk, rfl, hb, hx, hall⟩ := hrel
    have HB2 := Lib.hid hb
    have HX2 := Lib.hid hx
    have HA := Lib.hid hall
    have q11 := rowCell hx 11 (.slice QA m.q.length qc) rfl
    clear hb hx hall HB HX
    by_cases hlt : k < m.q.length
    · have hltI : (k : Int) < (m.q.length : Int) := by omega
      obtain ⟨ad, bv, VA, vc, rfl, hbl, h1, h2, hbv, h3, h4⟩ := HQ.out k hlt
      obtain ⟨BA, bc1, rfl, -⟩ := hbv.open
      have c1 := cellM HB2.out (p := ad.add (k * 3)) (by rw [block_add]; exact hbl) h1
      have c2 := cellM HB2.out (p := ⟨(ad.add (k * 3)).block, (ad.add (k * 3)).off + 1, none⟩) (by rw [block_add]; exact hbl) h2
      have c3 := cellM HB2.out (p := ⟨(ad.add (k * 3)).block, (ad.add (k * 3)).off + 2, none⟩) (by rw [block_add]; exact hbl) h3
      have HLT := Lib.hid hlt
      have hq : ∃ q, smallC12 m.q[k] = q := ⟨_, rfl⟩
      obtain ⟨q, hq⟩ := hq
      by_cases h500 : m.q[k].1.2.length ≤ 500
      · have hi5 : ¬ (500 : Int) < (m.q[k].1.2.length : Int) := by omega
        have hs : smallC12 m.q[k] = briefE m.q[k].2 := by unfold smallC12; rw [decide_eq_true h500, Bool.true_and]
        have HC := Lib.hid (HF3.out VA vc m.q[k].2 wr (h4.below HB2.out))
        rw [hq] at hs
        rw [← hs] at HC
        have HQQ := Lib.hid hq
        clear hs hq
        cases q
        · go_wp2_with (first
            | (go_at_call 15; refine HC.out.mono ?_; rintro e w3 ⟨rfl, hb⟩; have HB3 := Lib.hid (bel2M HB2.out hb); clear hb))
          go_ret
          exact ⟨ret_bool (all_take_no k HLT.out HQQ.out).symm, HB3.out⟩
        · go_wp2_with (first
            | (go_at_call 15; refine HC.out.mono ?_; rintro e w3 ⟨rfl, hb⟩; have HB3 := Lib.hid (bel2M HB2.out hb); have HX3 := Lib.hid (heapB HX2.out hb); clear hb))
          go_roundw
          case rel =>
            refine ⟨k + 1, by have := HLT.out; omega, by go_num, HB3.out, HX3.out, fun j hj hj1 => ?_⟩
            by_cases hjk : j < k
            · exact HA.out j hj hjk
            · obtain rfl : j = k := by omega
              exact HQQ.out
          case measure => simp [intOf]; have := HLT.out; omega
      · have hi5 : (500 : Int) < (m.q[k].1.2.length : Int) := by omega
        have hs : smallC12 m.q[k] = false := by unfold smallC12; rw [decide_eq_false h500, Bool.false_and]
        have HSS := Lib.hid hs
        clear hs hq
        go_wp2
        go_ret
        exact ⟨ret_bool (all_take_no k HLT.out HSS.out).symm, HB2.out⟩
    · obtain rfl : k = m.q.length := by omega
      have hltI : ¬ (m.q.length : Int) < (m.q.length : Int) := by omega
      go_wp2
      go_ret
      exact ⟨ret_bool (all_take_all (fun j hj => HA.out j hj hj)).symm, HB2.out⟩

set_option maxHeartbeats 2000000 in
theorem gPutL_Env (b : Int × Int) (A : Option Addr) (cc : Nat) (l : List (Int × List UInt8)) (w : World) (hf : EnvK w A cc l) (hn : l.length ≤ 1000) (hd : ∀ x ∈ l, x.2.length ≤ 1000000) (hbd : (be 4 l.length ++ l.flatMap envW).length ≤ 1000000000) :
    Calls Try.prog 37 #[.slice A l.length cc, agBd b, .func (Fn.func 27) #[] #[]] w (Puts w (lisP envW b l)) := by
  obtain ⟨i0, hi, hz0, hz1, hz2⟩ := info_parts u8info
  have hlen : l.length ≤ 9223372036854775807 := by omega
  have HB0 := Lib.hid (alloc1B w (.cells #[.int .i64 b.1, .int .i64 b.2] 49))
  have HCN := Lib.hid (fun W => show Calls Try.prog 65 #[.agg #[.int .i64 b.1, .int .i64 b.2]] W (Ans (.bool (countB b)) W) from gCount_any b W)
  have HX := Lib.hid (fun k hk => env_open hf k hk)
  unfold lisP
  cases hc : countB b
  · rw [hc] at HCN
    go_enter Try.func37, Try.ntmps37
    go_wp2_with (go_at_call 65; refine (HCN.out _).mono ?_; rintro e w1 ⟨rfl, hb⟩; have HB1 := Lib.hid (bel2M HB0.out hb); clear hb)
    go_ret
    exact puts_nil _ _ HB1.out
  · rw [hc] at HCN
    rw [if_pos rfl]
    have HQ := Lib.hid (fun W => show Calls Try.prog 59 #[.slice none 0 0, .int .i64 l.length] W (Puts W (be 4 l.length)) from by
      have h := PutCount_any (.slice none 0 0) [] l.length W (Bs.nil W) (by simp) (by omega) (by omega)
      have hcap : (capC (l.length : Nat)).toNat = l.length := by unfold capC; omega
      rw [hcap] at h
      exact h)
    have ht : ∀ k (hk : k < l.length), be 4 l.length ++ (l.take (k + 1)).flatMap envW = be 4 l.length ++ (l.take k).flatMap envW ++ envW l[k] := fun k hk => by
      rw [List.take_succ_eq_append_getElem hk, List.flatMap_append, List.append_assoc]; simp
    have htl : ∀ k, (be 4 l.length ++ (l.take k).flatMap envW).length ≤ 1000000000 := fun k => by
      have h : l.flatMap envW = (l.take k).flatMap envW ++ (l.drop k).flatMap envW := by rw [← List.flatMap_append, List.take_append_drop]
      rw [h, List.length_append, List.length_append] at hbd
      rw [List.length_append]; omega
    have hend : be 4 l.length ++ (l.take l.length).flatMap envW = be 4 l.length ++ l.flatMap envW := by rw [List.take_length]
    have h00 : be 4 l.length ++ (l.take 0).flatMap envW = be 4 l.length := by simp
    have HT := Lib.hid ht
    have HTL := Lib.hid htl
    have HEND := Lib.hid hend
    have H00 := Lib.hid h00
    have HSM := Lib.hid hd
    clear hf ht htl hend hbd hn h00 hd
    generalize be 4 l.length = b4 at *
    go_enter Try.func37, Try.ntmps37
    go_wp2_with (first
      | (go_at_call 65; refine (HCN.out _).mono ?_; rintro e w1 ⟨rfl, hb⟩; have HB1 := Lib.hid (bel2M HB0.out hb); clear hb)
      | (go_at_call 59; refine (HQ.out _).mono ?_; rintro e w2 ⟨v2, rfl, ho2, hb⟩; have HB2 := Lib.hid (bel2M HB1.out hb); have HO2 := Lib.hid (own_mono ho2 HB1.out.size); clear hb ho2))
    go_loopw [7, 18] (fun v i wr => ∃ k : Nat, k ≤ l.length ∧ i = .int .i64 k ∧ wr.ownsRow w.heap.size 5 1 v (b4 ++ (l.take k).flatMap envW).length ((b4 ++ (l.take k).flatMap envW).map bc) ∧ Below w.heap.size w wr) (fun _ i _ => l.length - (intOf i).toNat)
    case atStart => exact ⟨0, Nat.zero_le _, rfl, by rw [H00.out]; exact HO2.out, HB2.out⟩
    case round =>
      obtain ⟨k, hk, rfl, hown, hb⟩ := hrel
      have HO := Lib.hid hown
      have HB := Lib.hid hb
      clear hown hb HO2 HB2
      by_cases hlt : k < l.length
      · have hltI : (k : Int) < (l.length : Int) := by omega
        obtain ⟨ad, bv, rfl, hbl, h1, h2, h3⟩ := HX.out k hlt
        obtain ⟨BA, bc1, rfl, -⟩ := h3.open
        have c1 := (HB.out.cell (p := ad.add (k * 2)) (by rw [block_add]; exact hbl)).trans h1
        have c2 := (HB.out.cell (p := ⟨(ad.add (k * 2)).block, (ad.add (k * 2)).off + 1, none⟩) (by rw [block_add]; exact hbl)).trans h2
        clear h1 h2
        have hmem := List.getElem_mem hlt
        have htk := HT.out k hlt
        have hle := HTL.out (k + 1)
        generalize l[k] = x at *
        have HC := Lib.hid (fun W (hb : Below w.heap.size w W) => show Calls Try.prog 27 #[.agg #[.int .i64 x.1, .slice BA x.2.length bc1]] W (Puts W (envW x)) from gPutEnv_any x _ W (h3.below hb (Nat.le_refl _)) (HSM.out x hmem))
        clear h3
        generalize x.1 = s at *
        generalize x.2.length = xn at *
        rw [htk] at hle
        generalize envW x = fx at *
        have HTT := Lib.hid htk
        have HLE := Lib.hid hle
        clear htk hle hmem
        go_wp2_with (first
          | (go_at_call 27; refine (HC.out _ (bel2M HB.out (alloc1B _ _))).mono ?_; rintro e w2 ⟨v2, rfl, ho2, hb2⟩; have HB2 := Lib.hid (bel2M (bel2M HB.out (alloc1B wr _)) hb2); have HOw := Lib.hid (own_belowM (own_belowM HO.out (alloc1B wr _)) hb2); have HV2 := Lib.hid (own_bs ho2); have hq1 : (b4 ++ (l.take k).flatMap envW).length + (fx.map bc).length ≤ maxLen := (by have := HLE.out; rw [List.length_append] at this; rw [List.length_map]; unfold maxLen; omega); have hq2 : ((b4 ++ (l.take k).flatMap envW).length + (fx.map bc).length) * 1 ≤ 140737488355328 := (by have := HLE.out; rw [List.length_append] at this; rw [List.length_map]; omega); have HQ2 := Lib.hid (And.intro hq1 hq2); clear ho2 hb2 hq1 hq2)
          | (at_builtin; refine wpList_append_rd _ rfl _ _ 23 rfl w.heap.size 5 i0 (.int .u8 0) 1 Try.underlying23 hi hz0 hz1 hz2 rfl _ _ _ rfl HOw.out _ _ rfl HV2.out (bc_one _) HQ2.out.1 HQ2.out.2 HB2.out.size ?_; intro v5 w5 hown5 hgr5; have HB5 := Lib.hid (HB2.out.grown hgr5 HB2.out.size (fun k hk => (HOw.out.lt k hk).1)); rw [← List.map_append, List.length_map, ← List.length_append, ← HTT.out] at hown5))
        go_roundw
        case rel => exact ⟨k + 1, by omega, by go_num, hown5, HB5.out⟩
        case measure => simp [intOf]; omega
      · obtain rfl : k = l.length := by omega
        have hltI : ¬ (l.length : Int) < (l.length : Int) := by omega
        go_wp2
        go_ret
        exact ⟨_, rfl, by rw [← HEND.out]; exact HO.out, HB.out⟩
abbrev SCp (w0 : World) (b : Nat) (s : Int) (bv v : Value) : World → Prop := fun W => Below w0.heap.size w0 W ∧ W.cell? ⟨b, 0, none⟩ = some (.int .i64 s) ∧ W.cell? ⟨b, 1, none⟩ = some bv ∧ W.cell? ⟨b, 2, none⟩ = some v
def SmC (x : Crt) : Prop := x.1.2.length ≤ 1000000 ∧ x.2.length ≤ 1000 ∧ (∀ e ∈ x.2, e.2.length ≤ 1000000) ∧ (be 4 x.2.length ++ x.2.flatMap envW).length ≤ 1000000000
set_option maxHeartbeats 1000000 in
theorem gPutCert_any (e : Crt) (bv : Value) (A : Option Addr) (c : Nat) (w : World) (hv : Bs w bv e.1.2) (hk : EnvK w A c e.2) (hs : SmC e) : Calls Try.prog 39 #[agCt e.1.1 bv A e.2.length c] w (Puts w (crtW e)) := by
  obtain ⟨i0, hi, hz0, hz1, hz2⟩ := info_parts u8info
  obtain ⟨BA, bc0, rfl, -⟩ := hv.open
  have x1 := heap_alloc_new w (.cells #[.int .i64 e.1.1, .slice BA e.1.2.length bc0, .slice A e.2.length c] 47)
  have hb0 := alloc1B w (.cells #[.int .i64 e.1.1, .slice BA e.1.2.length bc0, .slice A e.2.length c] 47)
  have HA := Lib.hid (fun n W => gAtMost_any n W)
  have HE := Lib.hid (fun W (hb : Below w.heap.size w W) => show Calls Try.prog 27 #[.agg #[.int .i64 e.1.1, .slice BA e.1.2.length bc0]] W (Puts W (envW e.1)) from gPutEnv_any e.1 _ W (hv.below hb (Nat.le_refl _)) hs.1)
  have HL := Lib.hid (fun W (hb : Below w.heap.size w W) => gPutL_Env (0, 7) A c e.2 W (hk.below hb) hs.2.1 hs.2.2.1 hs.2.2.2)
  unfold crtW
  have hq : (envW e.1).length + ((lisP envW (0, 7) e.2).map bc).length ≤ 2000000000 := by
    have h1 : lisP envW (0, 7) e.2 = be 4 e.2.length ++ e.2.flatMap envW := if_pos rfl
    have h2 := hs.1
    have h3 := hs.2.2.2
    rw [h1, List.length_map]
    unfold envW at h3 ⊢
    rw [List.length_append, i8B_length, partB_length]
    omega
  have HQ := Lib.hid hq
  generalize envW e.1 = l1 at *
  generalize lisP envW (0, 7) e.2 = l2 at *
  generalize e.1.2.length = n at *
  generalize e.2.length = m at *
  generalize e.1.1 = s at *
  go_enter Try.func39, Try.ntmps39
  go_upto_region 1 with fail
  generalize hw0 : w.alloc _ = w0 at *
  have HK := Lib.hid (show ∀ W, Below w0.heap.size w0 W → SCp w0 w.heap.size s (.slice BA n bc0) (.slice A m c) W from fun W h => ⟨h, cellB (rowCell x1 0 _ rfl) h, cellB (rowCell x1 1 _ rfl) h, cellB (rowCell x1 2 _ rfl) h⟩)
  have HB0 := Lib.hid hb0
  have HD := Lib.hid (show Below w0.heap.size w0 w0.drew from (Below.refl _ _).drew)
  clear x1 hb0 hw0 hv hk hs hq
  go_region_held3 (SCp w0 w.heap.size s (.slice BA n bc0) (.slice A m c)) (first | exact HK.out _ HD.out | exact HK.out _ HB1.out | exact HK.out _ HB2.out | exact HK.out _ HB3.out | exact HK.out _ HB4.out) (first
    | (go_at_call 27; refine (HE.out _ (bel2M HB0.out HD.out)).mono ?_; rintro e w1 ⟨v1, rfl, ho1, hb⟩; have HB1 := Lib.hid (bel2M HD.out hb); have HO1 := Lib.hid ho1; clear hb ho1)
    | (go_at_call 40; refine (HA.out _ _).mono ?_; rintro e w2 ⟨rfl, hb⟩; have HO1 := Lib.hid (own_belowM HO1.out hb); have HB2 := Lib.hid (bel2M HB1.out hb); clear hb)
    | (go_at_call 37; refine (HL.out _ (bel2M HB0.out HB2.out)).mono ?_; rintro e w3 ⟨v3, rfl, ho3, hb⟩; have HO1 := Lib.hid (own_belowM HO1.out hb); have HB3 := Lib.hid (bel2M HB2.out hb); have HV3 := Lib.hid (own_bs ho3); clear hb ho3)
    | (refine step_append_rd rfl (.tmp 5) (.tmp 9) 23 rfl w0.drew.heap.size 5 i0 (.int .u8 0) 1 Try.underlying23 hi hz0 hz1 hz2 rfl _ _ _ rfl HO1.out _ _ rfl HV3.out (bc_one _) (by have := HQ.out; unfold maxLen; omega) (by have := HQ.out; omega) HB3.out.size ?_; intro v4 w4 hown4 hg4 hob4; rw [← List.map_append, List.length_map, ← List.length_append] at hown4; have HO4 := Lib.hid hown4; have HB4 := Lib.hid (HB3.out.grown hg4 HB3.out.size (fun g hg => (HO1.out.lt g hg).1)); clear hown4 hg4 hob4))
  go_wp2
  go_ret
  exact ⟨v4, rfl, own_mono HO4.out HB0.out.size, bel2M HB0.out HB4.out⟩
set_option maxHeartbeats 2000000 in
theorem gPutL_Crt (b : Int × Int) (A : Option Addr) (cc : Nat) (l : List Crt) (w : World) (hf : CrtK w A cc l) (hn : l.length ≤ 1000) (hd : ∀ x ∈ l, SmC x) (hbd : (be 4 l.length ++ l.flatMap crtW).length ≤ 1000000000) :
    Calls Try.prog 38 #[.slice A l.length cc, agBd b, .func (Fn.func 39) #[] #[]] w (Puts w (lisP crtW b l)) := by
  obtain ⟨i0, hi, hz0, hz1, hz2⟩ := info_parts u8info
  have hlen : l.length ≤ 9223372036854775807 := by omega
  have HB0 := Lib.hid (alloc1B w (.cells #[.int .i64 b.1, .int .i64 b.2] 49))
  have HCN := Lib.hid (fun W => show Calls Try.prog 65 #[.agg #[.int .i64 b.1, .int .i64 b.2]] W (Ans (.bool (countB b)) W) from gCount_any b W)
  have HX := Lib.hid (fun k hk => crt_open hf k hk)
  unfold lisP
  cases hc : countB b
  · rw [hc] at HCN
    go_enter Try.func38, Try.ntmps38
    go_wp2_with (go_at_call 65; refine (HCN.out _).mono ?_; rintro e w1 ⟨rfl, hb⟩; have HB1 := Lib.hid (bel2M HB0.out hb); clear hb)
    go_ret
    exact puts_nil _ _ HB1.out
  · rw [hc] at HCN
    rw [if_pos rfl]
    have HQ := Lib.hid (fun W => show Calls Try.prog 59 #[.slice none 0 0, .int .i64 l.length] W (Puts W (be 4 l.length)) from by
      have h := PutCount_any (.slice none 0 0) [] l.length W (Bs.nil W) (by simp) (by omega) (by omega)
      have hcap : (capC (l.length : Nat)).toNat = l.length := by unfold capC; omega
      rw [hcap] at h
      exact h)
    have ht : ∀ k (hk : k < l.length), be 4 l.length ++ (l.take (k + 1)).flatMap crtW = be 4 l.length ++ (l.take k).flatMap crtW ++ crtW l[k] := fun k hk => by
      rw [List.take_succ_eq_append_getElem hk, List.flatMap_append, List.append_assoc]; simp
    have htl : ∀ k, (be 4 l.length ++ (l.take k).flatMap crtW).length ≤ 1000000000 := fun k => by
      have h : l.flatMap crtW = (l.take k).flatMap crtW ++ (l.drop k).flatMap crtW := by rw [← List.flatMap_append, List.take_append_drop]
      rw [h, List.length_append, List.length_append] at hbd
      rw [List.length_append]; omega
    have hend : be 4 l.length ++ (l.take l.length).flatMap crtW = be 4 l.length ++ l.flatMap crtW := by rw [List.take_length]
    have h00 : be 4 l.length ++ (l.take 0).flatMap crtW = be 4 l.length := by simp
    have HT := Lib.hid ht
    have HTL := Lib.hid htl
    have HEND := Lib.hid hend
    have H00 := Lib.hid h00
    have HSM := Lib.hid hd
    clear hf ht htl hend hbd hn h00 hd
    generalize be 4 l.length = b4 at *
    go_enter Try.func38, Try.ntmps38
    go_wp2_with (first
      | (go_at_call 65; refine (HCN.out _).mono ?_; rintro e w1 ⟨rfl, hb⟩; have HB1 := Lib.hid (bel2M HB0.out hb); clear hb)
      | (go_at_call 59; refine (HQ.out _).mono ?_; rintro e w2 ⟨v2, rfl, ho2, hb⟩; have HB2 := Lib.hid (bel2M HB1.out hb); have HO2 := Lib.hid (own_mono ho2 HB1.out.size); clear hb ho2))
    go_loopw [7, 18] (fun v i wr => ∃ k : Nat, k ≤ l.length ∧ i = .int .i64 k ∧ wr.ownsRow w.heap.size 5 1 v (b4 ++ (l.take k).flatMap crtW).length ((b4 ++ (l.take k).flatMap crtW).map bc) ∧ Below w.heap.size w wr) (fun _ i _ => l.length - (intOf i).toNat)
    case atStart => exact ⟨0, Nat.zero_le _, rfl, by rw [H00.out]; exact HO2.out, HB2.out⟩
    case round =>
      obtain ⟨k, hk, rfl, hown, hb⟩ := hrel
      have HO := Lib.hid hown
      have HB := Lib.hid hb
      clear hown hb HO2 HB2
      by_cases hlt : k < l.length
      · have hltI : (k : Int) < (l.length : Int) := by omega
        obtain ⟨ad, bv, VA, vc, rfl, hbl, h1, h2, h3, h4, h5⟩ := HX.out k hlt
        obtain ⟨BA, bc1, rfl, -⟩ := h3.open
        have c1 := (HB.out.cell (p := ad.add (k * 3)) (by rw [block_add]; exact hbl)).trans h1
        have c2 := (HB.out.cell (p := ⟨(ad.add (k * 3)).block, (ad.add (k * 3)).off + 1, none⟩) (by rw [block_add]; exact hbl)).trans h2
        have c3 := (HB.out.cell (p := ⟨(ad.add (k * 3)).block, (ad.add (k * 3)).off + 2, none⟩) (by rw [block_add]; exact hbl)).trans h4
        clear h1 h2 h4
        have hmem := List.getElem_mem hlt
        have htk := HT.out k hlt
        have hle := HTL.out (k + 1)
        generalize l[k] = x at *
        have HC := Lib.hid (fun W (hb : Below w.heap.size w W) => show Calls Try.prog 39 #[.agg #[.int .i64 x.1.1, .slice BA x.1.2.length bc1, .slice VA x.2.length vc]] W (Puts W (crtW x)) from gPutCert_any x _ VA vc W (h3.below hb (Nat.le_refl _)) (h5.below hb) (HSM.out x hmem))
        clear h3 h5
        generalize x.1.1 = s at *
        generalize x.1.2.length = xn at *
        generalize x.2.length = vn at *
        rw [htk] at hle
        generalize crtW x = fx at *
        have HTT := Lib.hid htk
        have HLE := Lib.hid hle
        clear htk hle hmem
        go_wp2_with (first
          | (go_at_call 39; refine (HC.out _ (bel2M HB.out (alloc1B _ _))).mono ?_; rintro e w2 ⟨v2, rfl, ho2, hb2⟩; have HB2 := Lib.hid (bel2M (bel2M HB.out (alloc1B wr _)) hb2); have HOw := Lib.hid (own_belowM (own_belowM HO.out (alloc1B wr _)) hb2); have HV2 := Lib.hid (own_bs ho2); have hq1 : (b4 ++ (l.take k).flatMap crtW).length + (fx.map bc).length ≤ maxLen := (by have := HLE.out; rw [List.length_append] at this; rw [List.length_map]; unfold maxLen; omega); have hq2 : ((b4 ++ (l.take k).flatMap crtW).length + (fx.map bc).length) * 1 ≤ 140737488355328 := (by have := HLE.out; rw [List.length_append] at this; rw [List.length_map]; omega); have HQ2 := Lib.hid (And.intro hq1 hq2); clear ho2 hb2 hq1 hq2)
          | (at_builtin; refine wpList_append_rd _ rfl _ _ 23 rfl w.heap.size 5 i0 (.int .u8 0) 1 Try.underlying23 hi hz0 hz1 hz2 rfl _ _ _ rfl HOw.out _ _ rfl HV2.out (bc_one _) HQ2.out.1 HQ2.out.2 HB2.out.size ?_; intro v5 w5 hown5 hgr5; have HB5 := Lib.hid (HB2.out.grown hgr5 HB2.out.size (fun k hk => (HOw.out.lt k hk).1)); rw [← List.map_append, List.length_map, ← List.length_append, ← HTT.out] at hown5))
        go_roundw
        case rel => exact ⟨k + 1, by omega, by go_num, hown5, HB5.out⟩
        case measure => simp [intOf]; omega
      · obtain rfl : k = l.length := by omega
        have hltI : ¬ (l.length : Int) < (l.length : Int) := by omega
        go_wp2
        go_ret
        exact ⟨_, rfl, by rw [← HEND.out]; exact HO.out, HB.out⟩

end Go.Proofs.Ytjekpchcbbiohaa
