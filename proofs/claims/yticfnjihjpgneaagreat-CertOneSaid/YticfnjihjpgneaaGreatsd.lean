/- sd: MLay TLeaf MRoot MWay MPath MRPath BPut MChk TLaws TLaws2 TLaws3 TLaws4 MChk2 BLeaf BRows MFew MRChk MAw MLaws BHead BDig BPutB BGet1 BGet2 BGet3 GShp GMem GKp HKp (made by shake.py). -/
import Derived.Shelf.Small.Bits
import Derived.Shelf.SlicesQ.Reverse
import Derived.Lib.SlBytesConst
import Derived.WalkMore
import Derived.Deep.Cut
import Derived.Deep.OwnRows
import Derived.Deep.MidRow
import Derived.Test.YticfnjihjpgneaaGreatsc
namespace Go.Proofs.YticfnjihjpgneaaGreat
open Go.RowKit Go.Shelf
set_option linter.unusedVariables false
set_option linter.unusedSimpArgs false
set_option maxRecDepth 20000

end Go.Proofs.YticfnjihjpgneaaGreat

namespace Go.Proofs.YticfnjihjpgneaaGreat
open Go.RowKit
set_option linter.unusedVariables false
set_option linter.unusedSimpArgs false
set_option maxRecDepth 20000

theorem Bss.one {w : World} {v : Value} {l : List UInt8} (h : Bs w v l) (t : TypeId) : Bss (w.alloc (.cells #[v] t)) (.slice (some ⟨w.heap.size, 0, none⟩) 1 1) [l] := by
  refine ⟨[v], Rd.one w v t, rfl, fun k x m hx hm => ?_⟩
  have hk : k < [v].length := (List.getElem?_eq_some_iff.1 hx).1
  simp at hk
  subst hk
  simp at hx hm
  subst hx hm
  exact h.below ((Below.refl _ _).alloc (Nat.le_refl _) _) (Nat.le_refl _)
theorem Rd.two (w : World) (x y : Value) (t : TypeId) : Rd (w.alloc (.cells #[x, y] t)) (.slice (some ⟨w.heap.size, 0, none⟩) 2 2) [x, y] := by
  refine ⟨_, 2, rfl, Nat.le_refl _, by unfold maxLen; omega, (by intro h; cases h), fun _ => ⟨_, rfl, by simp, fun j u hj => ?_⟩⟩
  rw [Addr.add_lit, Nat.zero_add, cell_of_row _ _ j _ t (0, 0) (heap_alloc_new w _)]
  simpa using hj
theorem Bss.two {w : World} {v y : Value} {l m : List UInt8} (h : Bs w v l) (h2 : Bs w y m) (t : TypeId) : Bss (w.alloc (.cells #[v, y] t)) (.slice (some ⟨w.heap.size, 0, none⟩) 2 2) [l, m] := by
  refine ⟨[v, y], Rd.two w v y t, rfl, fun k x z hx hz => ?_⟩
  have hk : k < [v, y].length := (List.getElem?_eq_some_iff.1 hx).1
  simp at hk
  obtain rfl | rfl : k = 0 ∨ k = 1 := by omega
  · simp at hx hz
    subst hx hz
    exact h.below ((Below.refl _ _).alloc (Nat.le_refl _) _) (Nat.le_refl _)
  · simp at hx hz
    subst hx hz
    exact h2.below ((Below.refl _ _).alloc (Nat.le_refl _) _) (Nat.le_refl _)

theorem bel2M {a b c : World} (h : Below a.heap.size a b) (h2 : Below b.heap.size b c) : Below a.heap.size a c := h.trans (h2.mono h.size)

end Go.Proofs.YticfnjihjpgneaaGreat

namespace Go.Proofs.YticfnjihjpgneaaGreat
open Go.RowKit
open Go.Sort (putRowK HoldsK holdsK_putRowK holdsK_ahead size_flatK get_flatK)
set_option linter.unusedVariables false
set_option linter.unusedSimpArgs false
set_option maxRecDepth 20000

theorem rowMs_new (w : World) (cs : Array Value) (t : TypeId) (m size : Nat) (h : cs.size = m * size) (c : Nat) (hm : 0 < m) : RowMs (w.alloc (.cells cs t)) size (.slice (some ⟨w.heap.size, 0, none⟩) m c) m cs.toList := by
  refine ⟨_, _, rfl, by simpa using h, (by intro e; cases e), fun a ha j u hj => ?_⟩
  injection ha with ha
  subst ha
  rw [Addr.add_lit, Nat.zero_add, cell_of_row _ _ j _ t (0, 0) (heap_alloc_new w _)]
  simpa using hj
end Go.Proofs.YticfnjihjpgneaaGreat

namespace Go.Proofs.YticfnjihjpgneaaGreat
open Go.RowKit
set_option linter.unusedVariables false
set_option linter.unusedSimpArgs false
set_option maxRecDepth 20000

theorem own_belowM {B n size : Nat} {e : TypeId} {w w' : World} {v : Value} {xs : List Value} (h : w.ownsRow B e size v n xs) (hb : Below w.heap.size w w') : w'.ownsRow B e size v n xs :=
  h.kept (below_grown hb none) (by cases h : v.ownBlock <;> simp)

















theorem cellB {w w' : World} {p : Addr} {x : Value} (h : w.cell? p = some x) (hb : Below w.heap.size w w') : w'.cell? p = some x := cellM hb (World.block_lt_of_cell? _ _ h) h
theorem alloc1B (W : World) (o : Obj) : Below W.heap.size W (W.alloc o) := (Below.refl _ _).alloc (Nat.le_refl _) o
theorem rowCell {W : World} {b : Nat} {cs : Array Value} {t : TypeId} (h : W.heap[b]? = some (.cells cs t (0, 0))) (j : Nat) (x : Value) (hx : cs[j]? = some x) : W.cell? ⟨b, j, none⟩ = some x := (cell_of_row W b j cs t (0, 0) h).trans hx
theorem box2B (w : World) (cs ds : Array Value) (t u : TypeId) : ((w.alloc (.cells cs t)).alloc (.cells ds u)).heap[w.heap.size]? = some (.cells cs t (0, 0)) ∧ ((w.alloc (.cells cs t)).alloc (.cells ds u)).heap[w.heap.size + 1]? = some (.cells ds u (0, 0)) ∧
    Below w.heap.size w ((w.alloc (.cells cs t)).alloc (.cells ds u)) :=
  ⟨by rw [Below.heap_alloc _ _ _ (by simp)]; exact heap_alloc_new w _, by have := heap_alloc_new (w.alloc (.cells cs t)) (.cells ds u); simpa using this, bel2M (alloc1B _ _) (alloc1B _ _)⟩
abbrev agE (s : Int) (b : Value) : Value := .agg #[.int .i64 s, b]

theorem bss_rowIs {W : World} {g : Nat} {t : TypeId} {ls : List (List UInt8)} {xs : Nat → Value} (h : W.rowIs g t ls.length xs) (hx : ∀ j (hj : j < ls.length), Bs W (xs j) ls[j]) (hm : ls.length ≤ 1000) : Bss W (.slice (some ⟨g, 0, none⟩) ls.length ls.length) ls := by
  refine ⟨(List.range ls.length).map xs, ⟨some ⟨g, 0, none⟩, ls.length, by simp, by simp, by unfold maxLen; omega, (fun h => by cases h), fun _ => ⟨_, rfl, h.lt, fun j u hj => ?_⟩⟩, by simp, fun k x l hk hl => ?_⟩
  · have hjl : j < ls.length := by have := (List.getElem?_eq_some_iff.1 hj).1; simpa using this
    rw [Addr.add_lit, Nat.zero_add]
    have e : xs j = u := by simpa [hjl] using hj
    rw [← e]
    exact h.cell hjl
  · have hkl : k < ls.length := (List.getElem?_eq_some_iff.1 hl).1
    have e : xs k = x := by simpa [hkl] using hk
    have e2 : ls[k] = l := by simpa [hkl] using hl
    rw [← e, ← e2]
    exact hx k hkl
theorem setOtherB {W : World} {p q : Addr} {x u : Value} (h : W.cell? p = some x) (hne : p.block ≠ q.block) : (W.setCell q u).cell? p = some x := (World.cell?_of_block (Go.Deep.blk_setCell_other _ _ _ _ hne)).trans h
theorem keepB {w w' : World} {v : Value} {l : List UInt8} (h : Bs w v l) (hs : w.heap.size ≤ w'.heap.size) (hk : ∀ k, v.ownBlock = some k → w'.heap[k]? = w.heap[k]?) : Bs w' v l := by
  obtain ⟨A, c, hv, hc, hm, hn, hx⟩ := h
  refine ⟨A, c, hv, hc, hm, hn, fun he => ?_⟩
  obtain ⟨ad, ha, hl, hr⟩ := hx he
  subst ha hv
  have hn' := hk ad.block rfl
  exact ⟨ad, rfl, Nat.lt_of_lt_of_le hl hs, fun j u hj => (World.cell?_of_block (by rw [block_add]; exact hn')).trans (hr j u hj)⟩
abbrev SRw (p1 p2 p3 p4 p5 p6 : Addr) (v1 v2 v3 v4 v5 v6 : Value) : World → Prop := fun W => W.cell? p1 = some v1 ∧ W.cell? p2 = some v2 ∧ W.cell? p3 = some v3 ∧ W.cell? p4 = some v4 ∧ W.cell? p5 = some v5 ∧ W.cell? p6 = some v6
theorem SRw.below {p1 p2 p3 p4 p5 p6 : Addr} {v1 v2 v3 v4 v5 v6 : Value} {W W' : World} (h : SRw p1 p2 p3 p4 p5 p6 v1 v2 v3 v4 v5 v6 W) (hb : Below W.heap.size W W') : SRw p1 p2 p3 p4 p5 p6 v1 v2 v3 v4 v5 v6 W' := ⟨cellB h.1 hb, cellB h.2.1 hb, cellB h.2.2.1 hb, cellB h.2.2.2.1 hb, cellB h.2.2.2.2.1 hb, cellB h.2.2.2.2.2 hb⟩
theorem SRw.set {p1 p2 p3 p4 p5 p6 : Addr} {v1 v2 v3 v4 v5 v6 : Value} {W : World} {g j : Nat} {u : Value} (h : SRw p1 p2 p3 p4 p5 p6 v1 v2 v3 v4 v5 v6 W) (n1 : p1.block ≠ g) (n2 : p2.block ≠ g) (n3 : p3.block ≠ g) (n4 : p4.block ≠ g) (n5 : p5.block ≠ g) (n6 : p6.block ≠ g) : SRw p1 p2 p3 p4 p5 p6 v1 v2 v3 v4 v5 v6 (W.setCell ⟨g, j, none⟩ u) := ⟨setOtherB h.1 n1, setOtherB h.2.1 n2, setOtherB h.2.2.1 n3, setOtherB h.2.2.2.1 n4, setOtherB h.2.2.2.2.1 n5, setOtherB h.2.2.2.2.2 n6⟩
theorem SRw.grown {p1 p2 p3 p4 p5 p6 : Addr} {v1 v2 v3 v4 v5 v6 : Value} {W W' : World} {row : Option Nat} {N : Nat} (h : SRw p1 p2 p3 p4 p5 p6 v1 v2 v3 v4 v5 v6 W) (hg : W.grownBy W' row) (hr : ∀ g, row = some g → N ≤ g) (n1 : p1.block < N) (n2 : p2.block < N) (n3 : p3.block < N) (n4 : p4.block < N) (n5 : p5.block < N) (n6 : p6.block < N) : SRw p1 p2 p3 p4 p5 p6 v1 v2 v3 v4 v5 v6 W' := by
  have key : ∀ (p : Addr) (x : Value), W.cell? p = some x → p.block < N → W'.cell? p = some x := fun p x hp hn => (World.cell?_of_block (hg.block _ (World.block_lt_of_cell? _ _ hp) (fun e => by have := hr _ e.symm; omega))).trans hp
  exact ⟨key _ _ h.1 n1, key _ _ h.2.1 n2, key _ _ h.2.2.1 n3, key _ _ h.2.2.2.1 n4, key _ _ h.2.2.2.2.1 n5, key _ _ h.2.2.2.2.2 n6⟩

def fewM (ls : List (List UInt8)) : Bool := decide (ls.length ≤ 40) && ls.all fun l => decide (l.length ≤ 200)
theorem fewM_iff {ls : List (List UInt8)} : fewM ls = true ↔ ls.length ≤ 40 ∧ ∀ l ∈ ls, l.length ≤ 200 := by simp [fewM]
theorem fewM.sum {ls : List (List UInt8)} (h : fewM ls = true) : ls.length ≤ 40 ∧ sumT ls ≤ 8880 := by
  obtain ⟨h1, h2⟩ := fewM_iff.1 h
  have h3 := sumT_le 200 ls h2
  have h4 : (200 + 22) * ls.length ≤ 222 * 40 := Nat.mul_le_mul_left _ h1
  exact ⟨h1, by omega⟩













theorem Bt.keepG {w w' : World} {v : Value} {l : List UInt8} (h : Bt w v l) (hz : w.heap.size ≤ w'.heap.size) (hk : ∀ (k : Nat) (cs : Array Value) (fr : Nat × Nat), w.heap[k]? = some (Obj.cells cs 5 fr) → w'.heap[k]? = w.heap[k]?) : Bt w' v l := by
  obtain ⟨⟨A, c, hv, hc, hm, hn, hx⟩, hy⟩ := h
  by_cases hl : l = []
  · subst hl
    exact ⟨⟨A, c, hv, hc, hm, hn, fun he => absurd rfl he⟩, fun he => absurd rfl he⟩
  · have hl' : l.map bc ≠ [] := by simpa using hl
    obtain ⟨ad, ha, hb, hr⟩ := hx hl'
    have hown : v.ownBlock = some ad.block := by rw [hv, ha]; rfl
    obtain ⟨cs2, fr2, hty⟩ := hy hl ad.block hown
    have hblk := hk _ _ _ hty
    refine ⟨⟨A, c, hv, hc, hm, hn, fun _ => ⟨ad, ha, Nat.lt_of_lt_of_le hb hz, fun j u hu => ?_⟩⟩, fun _ k hkk => ?_⟩
    · have hb2 : (ad.add j).block = ad.block := block_add ad j
      exact (World.cell?_of_block (w := w) (w' := w') (a := ad.add j) (by rw [hb2]; exact hblk)).trans (hr j u hu)
    · rw [hown] at hkk
      injection hkk with hkk
      subst hkk
      exact ⟨cs2, fr2, hblk.trans hty⟩
theorem RdR.keepG {w w' : World} {g : Nat} {rest : List UInt8} {e : Int} (h : RdR w g rest e) (hz : w.heap.size ≤ w'.heap.size) (hg : w'.heap[g]? = w.heap[g]?) (hk : ∀ (k : Nat) (cs : Array Value) (fr : Nat × Nat), w.heap[k]? = some (Obj.cells cs 5 fr) → w'.heap[k]? = w.heap[k]?) : RdR w' g rest e := by
  obtain ⟨rv, hh, hb⟩ := h
  exact ⟨rv, hg.trans hh, hb.keepG hz hk⟩
theorem other_blockG {w : World} {k N : Nat} {cs cs' : Array Value} {t t' : TypeId} {fr fr' : Nat × Nat} (hk : w.heap[k]? = some (.cells cs t fr)) (hN : w.heap[N]? = some (.cells cs' t' fr')) (ht : t ≠ t') : k ≠ N := by
  rintro rfl
  rw [hN] at hk
  injection hk with hk
  injection hk with h1 h2
  exact ht h2.symm
theorem stepF_lenG (k : Nat) (al : Int → Int) (rest : List UInt8) (e : Int) : (stepF k al rest e).2.1.length ≤ rest.length := by
  unfold stepF
  split
  · exact Nat.le_refl _
  split
  · exact Nat.le_refl _
  split
  · exact Nat.le_refl _
  · simp
theorem bytesF_lenG (most : Int) (rest : List UInt8) (e : Int) : (bytesF most rest e).2.1.length ≤ rest.length := by
  have h := stepF_lenG 4 (alBytes most rest) rest e
  unfold bytesF
  split
  · exact h
  · simp only [List.length_drop]
    omega


theorem int8F_lenG (rest : List UInt8) (e : Int) : (int8F rest e).2.1.length ≤ rest.length := stepF_lenG 8 alInt rest e
theorem bytesL_lenG (rest : List UInt8) (e : Int) : (bytesL rest e).2.1.length ≤ rest.length := bytesF_lenG _ rest e

theorem onlyNew {g b : Nat} {w a a' : World} (h : Only g w a) (ho : Only b a a') (hb : w.heap.size ≤ b) : Only g w a' :=
  ⟨ho.os.trans h.os, ho.tape.trans h.tape, ho.output.trans h.output, Nat.le_trans h.size ho.size, fun k hk hne => (ho.block k (Nat.lt_of_lt_of_le hk h.size) (by intro e; injection e with e; omega)).trans (h.block k hk hne)⟩
theorem rdStore {w w' : World} {g b : Nat} {rest : List UInt8} {e : Int} {cs : Array Value} {t : TypeId} {fr : Nat × Nat} (h : RdR w g rest e) (ho : Only b w w') (hb : w.heap[b]? = some (.cells cs t fr)) (ht : 5 ≠ t) (hg : g ≠ b) : RdR w' g rest e :=
  h.keepG ho.size (ho.block g h.lt (by intro e; injection e with e; exact hg e)) fun k cs2 fr2 hk => ho.block k (Array.getElem?_eq_some_iff.1 hk).1 (by intro e; injection e with e; exact other_blockG hk hb ht e)

abbrev EnvB := (Int × List UInt8) × Value
def envC (q : EnvB) : List Value := [.int .i64 q.1.1, q.2]
theorem envinfoB : (Tryz.prog.info? 35).map (fun i => (i.zero, i.size, i.bytes)) = some (some (.agg #[.int .i64 0, .slice none 0 0]), 2, 32) := by kernel_rfl
theorem own_keepG {w w' : World} {B e sz n : Nat} {v : Value} {xs : List Value} (h : w.ownsRow B e sz v n xs) (hk : ∀ k, v.ownBlock = some k → w'.heap[k]? = w.heap[k]?) : w'.ownsRow B e sz v n xs := by
  obtain ⟨h1, h2⟩ := h
  refine ⟨h1, ?_⟩
  rcases h2 with h2 | ⟨g, cap, cur, rfl, hb, hg, hr⟩
  · exact .inl h2
  · exact .inr ⟨g, cap, cur, rfl, hb, (hk g rfl).trans hg, hr⟩
theorem own_typed {w : World} {B e sz n : Nat} {v : Value} {xs : List Value} (h : w.ownsRow B e sz v n xs) (k : Nat) (hk : v.ownBlock = some k) : ∃ cs fr, w.heap[k]? = some (.cells cs e fr) := by
  rcases h.2 with ⟨rfl, -⟩ | ⟨g, cap, cur, rfl, -, hg, -⟩
  · cases hk
  · injection hk with hk
    subst hk
    exact ⟨_, _, hg⟩
section
variable {w W W2 : World} {g kb B : Nat} {h : Int} {prev : List UInt8} {E : List EnvB} {R : List (Int × Int)} {rq rr : Value} {rest : List UInt8} {err : Int}
end

abbrev agBd (b : Int × Int) : Value := .agg #[.int .i64 b.1, .int .i64 b.2]
abbrev shC (s : Shp) : Array Value := #[.int .i64 s.v.1, .int .i64 s.v.2, .int .i64 s.s.1, .int .i64 s.s.2, .int .i64 s.c.1, .int .i64 s.c.2, .int .i64 s.t.1, .int .i64 s.t.2, .int .i64 s.d.1, .int .i64 s.d.2, .int .i64 s.x.1, .int .i64 s.x.2, .bool s.r, .int .i64 s.b.1, .int .i64 s.b.2, .int .i64 s.p.1, .int .i64 s.p.2, .int .i64 s.q.1, .int .i64 s.q.2]
def Ans (v : Value) (w : World) (e : Ending) (w' : World) : Prop := e = .returned v ∧ Below w.heap.size w w'
theorem gAtMost_any (n : Int) (w : World) : Calls Tryz.prog 205 #[.int .i64 n] w (Ans (agBd (0, n)) w) := by
  go_enter Tryz.func205, Tryz.ntmps205
  go_wp2
  refine bodyPost_ret (v := agBd (0, n)) ?_ rfl ⟨rfl, (Below.refl _ _).alloc (Nat.le_refl _) _⟩
  simp [results, Tryz.results205, go_sem]
theorem numbersFrom_any (n : Int) (w : World) : Calls Tryz.prog 206 #[.int .i64 n] w (Ans (agBd (n, 1099511627776)) w) := by
  go_enter Tryz.func206, Tryz.ntmps206
  go_wp2
  refine bodyPost_ret (v := agBd (n, 1099511627776)) ?_ rfl ⟨rfl, (Below.refl _ _).alloc (Nat.le_refl _) _⟩
  simp [results, Tryz.results206, go_sem]
theorem gCount_any (b : Int × Int) (w : World) : Calls Tryz.prog 214 #[agBd b] w (Ans (.bool (countB b)) w) := by
  go_enter Tryz.func214, Tryz.ntmps214
  go_wp2
  go_ret
  exact ⟨ret_bool rfl, (Below.refl _ _).alloc (Nat.le_refl _) _⟩
theorem gAllow_any (b : Int × Int) (n : Int) (w : World) : Calls Tryz.prog 208 #[agBd b, .int .i64 n] w (Ans (.bool (allowB b n)) w) := by
  obtain ⟨b1, b2⟩ := b
  unfold allowB
  simp only
  cases h : decide (b1 ≤ n)
  · go_enter Tryz.func208, Tryz.ntmps208
    go_wp2
    go_ret
    exact ⟨ret_bool rfl, (Below.refl _ _).alloc (Nat.le_refl _) _⟩
  · go_enter Tryz.func208, Tryz.ntmps208
    go_wp2
    go_ret
    exact ⟨ret_bool rfl, (Below.refl _ _).alloc (Nat.le_refl _) _⟩
theorem bdInfo : (Tryz.prog.info? 234).map (·.size) = some 2 := by kernel_rfl
theorem heap_range {w : World} {b : Nat} {cs : Array Value} {t : TypeId} (h : w.heap[b]? = some (.cells cs t (0, 0))) (o : Nat) (l : List Value) (hl : ∀ (j : Nat) (v : Value), l[j]? = some v → cs[o + j]? = some v) : w.rangeAt b o l := fun j v hv => (cell_of_row w b (o + j) cs t (0, 0) h).trans (hl j v hv)
theorem set_at {w : World} {b : Nat} {cs : Array Value} {t : TypeId} (h : w.heap[b]? = some (.cells cs t (0, 0))) (j : Nat) (u : Value) : (w.setCell ⟨b, j, none⟩ u).heap[b]? = some (.cells (cs.setIfInBounds j u) t (0, 0)) := by
  simp [World.setCell, Array.getElem?_modify, h]
theorem wpList_store2 {ops : Array Oper} {rest : List Oper} {op : Oper} {a : Act} {w : World} {Q : Exit → Act → World → Prop} (hgd : op.guard = none) (x y : Operand) (ho : op.op = .store 234 x y)
    (b o : Nat) (u1 u2 : Value) (cs cs' : Array Value) (t : TypeId) (hx : a.eval x = .pointer (some ⟨b, o, none⟩)) (hy : a.eval y = .agg #[u1, u2]) (hh : w.heap[b]? = some (.cells cs t (0, 0))) (h1 : u1.oneCell' = true) (h2 : u2.oneCell' = true) (hs : o + 1 < cs.size)
    (hc : (cs.setIfInBounds o u1).setIfInBounds (o + 1) u2 = cs')
    (h : ∀ w', w'.heap.size = w.heap.size → w'.heap[b]? = some (.cells cs' t (0, 0)) → Only b w w' → wpList Tryz.prog ops Q rest (a.put op.dst undef) w') : wpList Tryz.prog ops Q (op :: rest) a w := by
  refine wpList_store_mid hgd 234 x y ho b o #[u1, u2] hx hy (fun j hj => ?_) bdInfo (by simp [h1, h2]) ?_
  · have hj : j < 2 := hj
    refine ⟨?_, by simp [World.frozen?, hh]⟩
    rw [cell_of_row w b (o + j) cs t (0, 0) hh, Array.getElem?_eq_getElem (by omega)]
    rfl
  · refine h _ (by simp [World.setCells]) ?_ ((Only.refl b w).set o u1 |>.set (o + 1) u2)
    subst hc
    exact set_at (set_at hh o u1) (o + 1) u2
theorem anyLength_any (w : World) : Calls Tryz.prog 207 #[] w (Ans (agBd (0, 9223372036854775807)) w) := by
  have HA := Lib.hid (fun W => gAtMost_any 9223372036854775807 W)
  have h0 := heap_alloc_new w (.cells #[.int .i64 0, .int .i64 0] 234)
  have hb0 := alloc1B w (.cells #[.int .i64 0, .int .i64 0] 234)
  have HX := Lib.hid h0
  have HB := Lib.hid hb0
  clear h0 hb0
  go_enter Tryz.func207, Tryz.ntmps207
  go_wp2_with (first
    | (go_at_call 205; refine (HA.out _).mono ?_; rintro e w' ⟨rfl, hb⟩; have HX := Lib.hid (heapB HX.out hb); have HB := Lib.hid (bel2M HB.out hb); clear hb)
    | (refine wpList_store2 rfl _ _ rfl w.heap.size 0 _ _ _ _ 234 rfl rfl HX.out rfl rfl (by decide) rfl ?_; intro w' hz hx ho; have HX := Lib.hid hx; have HB := Lib.hid (onlyBelow HB.out ho (Nat.le_refl _) (Nat.le_refl _)); clear hz hx ho))
  have k0 := rowCell HX.out 0 (Value.int .i64 0) rfl
  have k1 := rowCell HX.out 1 (Value.int .i64 9223372036854775807) rfl
  refine bodyPost_ret (v := agBd (0, 9223372036854775807)) ?_ rfl ⟨rfl, HB.out⟩
  simp [results, Tryz.results207, go_sem, k0, k1]
/- the kinds (gengshp.py) -/
theorem boInfo : (Tryz.prog.info? 4).map (·.size) = some 1 := by kernel_rfl
theorem heap_all {w : World} {b : Nat} {cs : Array Value} {t : TypeId} (h : w.heap[b]? = some (.cells cs t (0, 0))) : w.rangeAt b 0 cs.toList := heap_range h 0 _ fun j v hv => by simpa using hv
theorem wpList_store1 {ops : Array Oper} {rest : List Oper} {op : Oper} {a : Act} {w : World} {Q : Exit → Act → World → Prop} (hgd : op.guard = none) (x y : Operand) (ho : op.op = .store 4 x y)
    (b o : Nat) (u : Bool) (cs cs' : Array Value) (t : TypeId) (hx : a.eval x = .pointer (some ⟨b, o, none⟩)) (hy : a.eval y = .bool u) (hh : w.heap[b]? = some (.cells cs t (0, 0))) (hs : o < cs.size)
    (hc : cs.setIfInBounds o (.bool u) = cs')
    (h : ∀ w', w'.heap.size = w.heap.size → w'.heap[b]? = some (.cells cs' t (0, 0)) → Only b w w' → wpList Tryz.prog ops Q rest (a.put op.dst undef) w') : wpList Tryz.prog ops Q (op :: rest) a w := by
  refine wpList_plain hgd fun _ hK => ?_
  have hcell : w.cell? ⟨b, o, none⟩ = some cs[o] := (cell_of_row w b o cs t (0, 0) hh).trans (Array.getElem?_eq_getElem hs)
  have hfr : w.frozen? ⟨b, o, none⟩ = false := by simp [World.frozen?, hh]
  unfold Oper.wp execOp
  simp only [ho, hx, hy, Instr.storeAt, Instr.sureAddr, Sem.run_bind, Sem.run_pure, Result.andThen_ok]
  have hrun : (storeVar 4 ⟨b, o, none⟩ (.bool u)).run Tryz.prog w = .ok () (w.setCell ⟨b, o, none⟩ (.bool u)) := by
    obtain ⟨i, hi, hsz⟩ := Option.map_eq_some_iff.1 boInfo
    simp [storeVar, sizeOf, typeInfo, go_sem, hcell, hfr, hi, hsz, Value.cells]
  rw [hrun]
  simp only [Result.andThen_ok]
  refine hK _ _ (h _ (by simp) ?_ ((Only.refl b w).set o _))
  subst hc
  exact set_at hh o _
theorem wpList_storeAll {ops : Array Oper} {rest : List Oper} {op : Oper} {a : Act} {w : World} {Q : Exit → Act → World → Prop} (hgd : op.guard = none) (ty : TypeId) (x y : Operand) (ho : op.op = .store ty x y)
    (b : Nat) (cells cur : Array Value) (hx : a.eval x = .pointer (some ⟨b, 0, none⟩)) (hy : a.eval y = .agg cells)
    (hh : w.heap[b]? = some (.cells cur ty (0, 0))) (hs : cur.size = cells.size) (hi : (Tryz.prog.info? ty).map (·.size) = some cells.size) (h1 : cells.all (·.oneCell') = true)
    (h : ∀ w', w'.heap.size = w.heap.size → w'.heap[b]? = some (.cells cells ty (0, 0)) → Only b w w' → wpList Tryz.prog ops Q rest (a.put op.dst undef) w') : wpList Tryz.prog ops Q (op :: rest) a w :=
  wpList_store_row hgd ty x y ho b cells cur hx hy hh hs hi h1 (h _ (by simp) (setRow_heap w b cur cells ty (0, 0) hh) (only_setRow w b cells))
abbrev shZ : Shp := ⟨(0, 0), (0, 0), (0, 0), (0, 0), (0, 0), (0, 0), false, (0, 0), (0, 0), (0, 0)⟩
def ShpP (k : Int) (w : World) (e : Ending) (w' : World) : Prop := e = .returned (.tuple #[.agg (shC (shapeM k).1), .bool (shapeM k).2]) ∧ Below w.heap.size w w'
set_option maxHeartbeats 2000000 in
theorem shape_2 (w : World) : Calls Tryz.prog 185 #[.int .i64 2] w (ShpP 2 w) := by
  have HA := Lib.hid (fun n W => gAtMost_any n W)
  have HN := Lib.hid (fun n W => numbersFrom_any n W)
  have HL := Lib.hid (fun W => anyLength_any W)
  obtain ⟨x1, x2, x3⟩ := box2B w (shC shZ) (shC shZ) 236 236
  go_enter Tryz.func185, Tryz.ntmps185
  go_upto_region 2 with fail
  generalize hw0 : (w.alloc _).alloc _ = w0 at *
  have HR := Lib.hid x1
  have HX := Lib.hid x2
  have HB := Lib.hid x3
  clear x1 x2 x3 hw0
  go_wp2_with (first
    | (go_at_call 205; refine (HA.out _ _).mono ?_; rintro e w' ⟨rfl, hb⟩; have HX := Lib.hid (heapB HX.out hb); have HR := Lib.hid (heapB HR.out hb); have HB := Lib.hid (bel2M HB.out hb); clear hb)
    | (go_at_call 206; refine (HN.out _ _).mono ?_; rintro e w' ⟨rfl, hb⟩; have HX := Lib.hid (heapB HX.out hb); have HR := Lib.hid (heapB HR.out hb); have HB := Lib.hid (bel2M HB.out hb); clear hb)
    | (go_at_call 207; refine (HL.out _).mono ?_; rintro e w' ⟨rfl, hb⟩; have HX := Lib.hid (heapB HX.out hb); have HR := Lib.hid (heapB HR.out hb); have HB := Lib.hid (bel2M HB.out hb); clear hb)
    | (refine wpList_store2 rfl _ _ rfl (w.heap.size + 1) _ _ _ _ _ 236 rfl rfl HX.out rfl rfl (by decide) rfl ?_; intro w' hz hx ho; have HX := Lib.hid hx; have HR := Lib.hid (onlyHeap ho HR.out (by omega)); have HB := Lib.hid (onlyBelow HB.out ho (by omega) (Nat.le_refl _)); clear hz hx ho)
    | (refine wpList_store1 rfl _ _ rfl (w.heap.size + 1) _ _ _ _ 236 rfl rfl HX.out (by decide) rfl ?_; intro w' hz hx ho; have HX := Lib.hid hx; have HR := Lib.hid (onlyHeap ho HR.out (by omega)); have HB := Lib.hid (onlyBelow HB.out ho (by omega) (Nat.le_refl _)); clear hz hx ho)
    | (refine wpList_load_mid rfl 236 _ rfl (w.heap.size + 1) 0 rfl _ _ (heap_all HX.out) Tryz.underlying236 rfl (by kernel_rfl) ?_)
    | (refine wpList_storeAll rfl 236 _ _ rfl w.heap.size _ _ rfl rfl HR.out rfl (by kernel_rfl) (by kernel_rfl) ?_; intro w' hz hr ho; have HR := Lib.hid hr; have HB := Lib.hid (onlyBelow HB.out ho (Nat.le_refl _) (Nat.le_refl _)); clear hz hr ho))
  refine bodyPost_ret (results_cell2 rfl _ _ w.heap.size 236 _ (0, 0) _ rfl HR.out Tryz.underlying236 rfl (by kernel_rfl)) rfl ?_
  exact ⟨by kernel_rfl, HB.out⟩
set_option maxHeartbeats 2000000 in
theorem shape_3 (w : World) : Calls Tryz.prog 185 #[.int .i64 3] w (ShpP 3 w) := by
  have HA := Lib.hid (fun n W => gAtMost_any n W)
  have HN := Lib.hid (fun n W => numbersFrom_any n W)
  have HL := Lib.hid (fun W => anyLength_any W)
  obtain ⟨x1, x2, x3⟩ := box2B w (shC shZ) (shC shZ) 236 236
  go_enter Tryz.func185, Tryz.ntmps185
  go_upto_region 2 with fail
  generalize hw0 : (w.alloc _).alloc _ = w0 at *
  have HR := Lib.hid x1
  have HX := Lib.hid x2
  have HB := Lib.hid x3
  clear x1 x2 x3 hw0
  go_wp2_with (first
    | (go_at_call 205; refine (HA.out _ _).mono ?_; rintro e w' ⟨rfl, hb⟩; have HX := Lib.hid (heapB HX.out hb); have HR := Lib.hid (heapB HR.out hb); have HB := Lib.hid (bel2M HB.out hb); clear hb)
    | (go_at_call 206; refine (HN.out _ _).mono ?_; rintro e w' ⟨rfl, hb⟩; have HX := Lib.hid (heapB HX.out hb); have HR := Lib.hid (heapB HR.out hb); have HB := Lib.hid (bel2M HB.out hb); clear hb)
    | (go_at_call 207; refine (HL.out _).mono ?_; rintro e w' ⟨rfl, hb⟩; have HX := Lib.hid (heapB HX.out hb); have HR := Lib.hid (heapB HR.out hb); have HB := Lib.hid (bel2M HB.out hb); clear hb)
    | (refine wpList_store2 rfl _ _ rfl (w.heap.size + 1) _ _ _ _ _ 236 rfl rfl HX.out rfl rfl (by decide) rfl ?_; intro w' hz hx ho; have HX := Lib.hid hx; have HR := Lib.hid (onlyHeap ho HR.out (by omega)); have HB := Lib.hid (onlyBelow HB.out ho (by omega) (Nat.le_refl _)); clear hz hx ho)
    | (refine wpList_store1 rfl _ _ rfl (w.heap.size + 1) _ _ _ _ 236 rfl rfl HX.out (by decide) rfl ?_; intro w' hz hx ho; have HX := Lib.hid hx; have HR := Lib.hid (onlyHeap ho HR.out (by omega)); have HB := Lib.hid (onlyBelow HB.out ho (by omega) (Nat.le_refl _)); clear hz hx ho)
    | (refine wpList_load_mid rfl 236 _ rfl (w.heap.size + 1) 0 rfl _ _ (heap_all HX.out) Tryz.underlying236 rfl (by kernel_rfl) ?_)
    | (refine wpList_storeAll rfl 236 _ _ rfl w.heap.size _ _ rfl rfl HR.out rfl (by kernel_rfl) (by kernel_rfl) ?_; intro w' hz hr ho; have HR := Lib.hid hr; have HB := Lib.hid (onlyBelow HB.out ho (Nat.le_refl _) (Nat.le_refl _)); clear hz hr ho))
  refine bodyPost_ret (results_cell2 rfl _ _ w.heap.size 236 _ (0, 0) _ rfl HR.out Tryz.underlying236 rfl (by kernel_rfl)) rfl ?_
  exact ⟨by kernel_rfl, HB.out⟩
set_option maxHeartbeats 2000000 in
theorem shape_4 (w : World) : Calls Tryz.prog 185 #[.int .i64 4] w (ShpP 4 w) := by
  have HA := Lib.hid (fun n W => gAtMost_any n W)
  have HN := Lib.hid (fun n W => numbersFrom_any n W)
  have HL := Lib.hid (fun W => anyLength_any W)
  obtain ⟨x1, x2, x3⟩ := box2B w (shC shZ) (shC shZ) 236 236
  go_enter Tryz.func185, Tryz.ntmps185
  go_upto_region 2 with fail
  generalize hw0 : (w.alloc _).alloc _ = w0 at *
  have HR := Lib.hid x1
  have HX := Lib.hid x2
  have HB := Lib.hid x3
  clear x1 x2 x3 hw0
  go_wp2_with (first
    | (go_at_call 205; refine (HA.out _ _).mono ?_; rintro e w' ⟨rfl, hb⟩; have HX := Lib.hid (heapB HX.out hb); have HR := Lib.hid (heapB HR.out hb); have HB := Lib.hid (bel2M HB.out hb); clear hb)
    | (go_at_call 206; refine (HN.out _ _).mono ?_; rintro e w' ⟨rfl, hb⟩; have HX := Lib.hid (heapB HX.out hb); have HR := Lib.hid (heapB HR.out hb); have HB := Lib.hid (bel2M HB.out hb); clear hb)
    | (go_at_call 207; refine (HL.out _).mono ?_; rintro e w' ⟨rfl, hb⟩; have HX := Lib.hid (heapB HX.out hb); have HR := Lib.hid (heapB HR.out hb); have HB := Lib.hid (bel2M HB.out hb); clear hb)
    | (refine wpList_store2 rfl _ _ rfl (w.heap.size + 1) _ _ _ _ _ 236 rfl rfl HX.out rfl rfl (by decide) rfl ?_; intro w' hz hx ho; have HX := Lib.hid hx; have HR := Lib.hid (onlyHeap ho HR.out (by omega)); have HB := Lib.hid (onlyBelow HB.out ho (by omega) (Nat.le_refl _)); clear hz hx ho)
    | (refine wpList_store1 rfl _ _ rfl (w.heap.size + 1) _ _ _ _ 236 rfl rfl HX.out (by decide) rfl ?_; intro w' hz hx ho; have HX := Lib.hid hx; have HR := Lib.hid (onlyHeap ho HR.out (by omega)); have HB := Lib.hid (onlyBelow HB.out ho (by omega) (Nat.le_refl _)); clear hz hx ho)
    | (refine wpList_load_mid rfl 236 _ rfl (w.heap.size + 1) 0 rfl _ _ (heap_all HX.out) Tryz.underlying236 rfl (by kernel_rfl) ?_)
    | (refine wpList_storeAll rfl 236 _ _ rfl w.heap.size _ _ rfl rfl HR.out rfl (by kernel_rfl) (by kernel_rfl) ?_; intro w' hz hr ho; have HR := Lib.hid hr; have HB := Lib.hid (onlyBelow HB.out ho (Nat.le_refl _) (Nat.le_refl _)); clear hz hr ho))
  refine bodyPost_ret (results_cell2 rfl _ _ w.heap.size 236 _ (0, 0) _ rfl HR.out Tryz.underlying236 rfl (by kernel_rfl)) rfl ?_
  exact ⟨by kernel_rfl, HB.out⟩
set_option maxHeartbeats 2000000 in
theorem shape_5 (w : World) : Calls Tryz.prog 185 #[.int .i64 5] w (ShpP 5 w) := by
  have HA := Lib.hid (fun n W => gAtMost_any n W)
  have HN := Lib.hid (fun n W => numbersFrom_any n W)
  have HL := Lib.hid (fun W => anyLength_any W)
  obtain ⟨x1, x2, x3⟩ := box2B w (shC shZ) (shC shZ) 236 236
  go_enter Tryz.func185, Tryz.ntmps185
  go_upto_region 2 with fail
  generalize hw0 : (w.alloc _).alloc _ = w0 at *
  have HR := Lib.hid x1
  have HX := Lib.hid x2
  have HB := Lib.hid x3
  clear x1 x2 x3 hw0
  go_wp2_with (first
    | (go_at_call 205; refine (HA.out _ _).mono ?_; rintro e w' ⟨rfl, hb⟩; have HX := Lib.hid (heapB HX.out hb); have HR := Lib.hid (heapB HR.out hb); have HB := Lib.hid (bel2M HB.out hb); clear hb)
    | (go_at_call 206; refine (HN.out _ _).mono ?_; rintro e w' ⟨rfl, hb⟩; have HX := Lib.hid (heapB HX.out hb); have HR := Lib.hid (heapB HR.out hb); have HB := Lib.hid (bel2M HB.out hb); clear hb)
    | (go_at_call 207; refine (HL.out _).mono ?_; rintro e w' ⟨rfl, hb⟩; have HX := Lib.hid (heapB HX.out hb); have HR := Lib.hid (heapB HR.out hb); have HB := Lib.hid (bel2M HB.out hb); clear hb)
    | (refine wpList_store2 rfl _ _ rfl (w.heap.size + 1) _ _ _ _ _ 236 rfl rfl HX.out rfl rfl (by decide) rfl ?_; intro w' hz hx ho; have HX := Lib.hid hx; have HR := Lib.hid (onlyHeap ho HR.out (by omega)); have HB := Lib.hid (onlyBelow HB.out ho (by omega) (Nat.le_refl _)); clear hz hx ho)
    | (refine wpList_store1 rfl _ _ rfl (w.heap.size + 1) _ _ _ _ 236 rfl rfl HX.out (by decide) rfl ?_; intro w' hz hx ho; have HX := Lib.hid hx; have HR := Lib.hid (onlyHeap ho HR.out (by omega)); have HB := Lib.hid (onlyBelow HB.out ho (by omega) (Nat.le_refl _)); clear hz hx ho)
    | (refine wpList_load_mid rfl 236 _ rfl (w.heap.size + 1) 0 rfl _ _ (heap_all HX.out) Tryz.underlying236 rfl (by kernel_rfl) ?_)
    | (refine wpList_storeAll rfl 236 _ _ rfl w.heap.size _ _ rfl rfl HR.out rfl (by kernel_rfl) (by kernel_rfl) ?_; intro w' hz hr ho; have HR := Lib.hid hr; have HB := Lib.hid (onlyBelow HB.out ho (Nat.le_refl _) (Nat.le_refl _)); clear hz hr ho))
  refine bodyPost_ret (results_cell2 rfl _ _ w.heap.size 236 _ (0, 0) _ rfl HR.out Tryz.underlying236 rfl (by kernel_rfl)) rfl ?_
  exact ⟨by kernel_rfl, HB.out⟩
set_option maxHeartbeats 2000000 in
theorem shape_1 (w : World) : Calls Tryz.prog 185 #[.int .i64 1] w (ShpP 1 w) := by
  have HA := Lib.hid (fun n W => gAtMost_any n W)
  have HN := Lib.hid (fun n W => numbersFrom_any n W)
  have HL := Lib.hid (fun W => anyLength_any W)
  obtain ⟨x1, x2, x3⟩ := box2B w (shC shZ) (shC shZ) 236 236
  go_enter Tryz.func185, Tryz.ntmps185
  go_upto_region 2 with fail
  generalize hw0 : (w.alloc _).alloc _ = w0 at *
  have HR := Lib.hid x1
  have HX := Lib.hid x2
  have HB := Lib.hid x3
  clear x1 x2 x3 hw0
  go_wp2_with (first
    | (go_at_call 205; refine (HA.out _ _).mono ?_; rintro e w' ⟨rfl, hb⟩; have HX := Lib.hid (heapB HX.out hb); have HR := Lib.hid (heapB HR.out hb); have HB := Lib.hid (bel2M HB.out hb); clear hb)
    | (go_at_call 206; refine (HN.out _ _).mono ?_; rintro e w' ⟨rfl, hb⟩; have HX := Lib.hid (heapB HX.out hb); have HR := Lib.hid (heapB HR.out hb); have HB := Lib.hid (bel2M HB.out hb); clear hb)
    | (go_at_call 207; refine (HL.out _).mono ?_; rintro e w' ⟨rfl, hb⟩; have HX := Lib.hid (heapB HX.out hb); have HR := Lib.hid (heapB HR.out hb); have HB := Lib.hid (bel2M HB.out hb); clear hb)
    | (refine wpList_store2 rfl _ _ rfl (w.heap.size + 1) _ _ _ _ _ 236 rfl rfl HX.out rfl rfl (by decide) rfl ?_; intro w' hz hx ho; have HX := Lib.hid hx; have HR := Lib.hid (onlyHeap ho HR.out (by omega)); have HB := Lib.hid (onlyBelow HB.out ho (by omega) (Nat.le_refl _)); clear hz hx ho)
    | (refine wpList_store1 rfl _ _ rfl (w.heap.size + 1) _ _ _ _ 236 rfl rfl HX.out (by decide) rfl ?_; intro w' hz hx ho; have HX := Lib.hid hx; have HR := Lib.hid (onlyHeap ho HR.out (by omega)); have HB := Lib.hid (onlyBelow HB.out ho (by omega) (Nat.le_refl _)); clear hz hx ho)
    | (refine wpList_load_mid rfl 236 _ rfl (w.heap.size + 1) 0 rfl _ _ (heap_all HX.out) Tryz.underlying236 rfl (by kernel_rfl) ?_)
    | (refine wpList_storeAll rfl 236 _ _ rfl w.heap.size _ _ rfl rfl HR.out rfl (by kernel_rfl) (by kernel_rfl) ?_; intro w' hz hr ho; have HR := Lib.hid hr; have HB := Lib.hid (onlyBelow HB.out ho (Nat.le_refl _) (Nat.le_refl _)); clear hz hr ho))
  refine bodyPost_ret (results_cell2 rfl _ _ w.heap.size 236 _ (0, 0) _ rfl HR.out Tryz.underlying236 rfl (by kernel_rfl)) rfl ?_
  exact ⟨by kernel_rfl, HB.out⟩
set_option maxHeartbeats 2000000 in
theorem shape_8 (w : World) : Calls Tryz.prog 185 #[.int .i64 8] w (ShpP 8 w) := by
  have HA := Lib.hid (fun n W => gAtMost_any n W)
  have HN := Lib.hid (fun n W => numbersFrom_any n W)
  have HL := Lib.hid (fun W => anyLength_any W)
  obtain ⟨x1, x2, x3⟩ := box2B w (shC shZ) (shC shZ) 236 236
  go_enter Tryz.func185, Tryz.ntmps185
  go_upto_region 2 with fail
  generalize hw0 : (w.alloc _).alloc _ = w0 at *
  have HR := Lib.hid x1
  have HX := Lib.hid x2
  have HB := Lib.hid x3
  clear x1 x2 x3 hw0
  go_wp2_with (first
    | (go_at_call 205; refine (HA.out _ _).mono ?_; rintro e w' ⟨rfl, hb⟩; have HX := Lib.hid (heapB HX.out hb); have HR := Lib.hid (heapB HR.out hb); have HB := Lib.hid (bel2M HB.out hb); clear hb)
    | (go_at_call 206; refine (HN.out _ _).mono ?_; rintro e w' ⟨rfl, hb⟩; have HX := Lib.hid (heapB HX.out hb); have HR := Lib.hid (heapB HR.out hb); have HB := Lib.hid (bel2M HB.out hb); clear hb)
    | (go_at_call 207; refine (HL.out _).mono ?_; rintro e w' ⟨rfl, hb⟩; have HX := Lib.hid (heapB HX.out hb); have HR := Lib.hid (heapB HR.out hb); have HB := Lib.hid (bel2M HB.out hb); clear hb)
    | (refine wpList_store2 rfl _ _ rfl (w.heap.size + 1) _ _ _ _ _ 236 rfl rfl HX.out rfl rfl (by decide) rfl ?_; intro w' hz hx ho; have HX := Lib.hid hx; have HR := Lib.hid (onlyHeap ho HR.out (by omega)); have HB := Lib.hid (onlyBelow HB.out ho (by omega) (Nat.le_refl _)); clear hz hx ho)
    | (refine wpList_store1 rfl _ _ rfl (w.heap.size + 1) _ _ _ _ 236 rfl rfl HX.out (by decide) rfl ?_; intro w' hz hx ho; have HX := Lib.hid hx; have HR := Lib.hid (onlyHeap ho HR.out (by omega)); have HB := Lib.hid (onlyBelow HB.out ho (by omega) (Nat.le_refl _)); clear hz hx ho)
    | (refine wpList_load_mid rfl 236 _ rfl (w.heap.size + 1) 0 rfl _ _ (heap_all HX.out) Tryz.underlying236 rfl (by kernel_rfl) ?_)
    | (refine wpList_storeAll rfl 236 _ _ rfl w.heap.size _ _ rfl rfl HR.out rfl (by kernel_rfl) (by kernel_rfl) ?_; intro w' hz hr ho; have HR := Lib.hid hr; have HB := Lib.hid (onlyBelow HB.out ho (Nat.le_refl _) (Nat.le_refl _)); clear hz hr ho))
  refine bodyPost_ret (results_cell2 rfl _ _ w.heap.size 236 _ (0, 0) _ rfl HR.out Tryz.underlying236 rfl (by kernel_rfl)) rfl ?_
  exact ⟨by kernel_rfl, HB.out⟩
set_option maxHeartbeats 2000000 in
theorem shape_6 (w : World) : Calls Tryz.prog 185 #[.int .i64 6] w (ShpP 6 w) := by
  have HA := Lib.hid (fun n W => gAtMost_any n W)
  have HN := Lib.hid (fun n W => numbersFrom_any n W)
  have HL := Lib.hid (fun W => anyLength_any W)
  obtain ⟨x1, x2, x3⟩ := box2B w (shC shZ) (shC shZ) 236 236
  go_enter Tryz.func185, Tryz.ntmps185
  go_upto_region 2 with fail
  generalize hw0 : (w.alloc _).alloc _ = w0 at *
  have HR := Lib.hid x1
  have HX := Lib.hid x2
  have HB := Lib.hid x3
  clear x1 x2 x3 hw0
  go_wp2_with (first
    | (go_at_call 205; refine (HA.out _ _).mono ?_; rintro e w' ⟨rfl, hb⟩; have HX := Lib.hid (heapB HX.out hb); have HR := Lib.hid (heapB HR.out hb); have HB := Lib.hid (bel2M HB.out hb); clear hb)
    | (go_at_call 206; refine (HN.out _ _).mono ?_; rintro e w' ⟨rfl, hb⟩; have HX := Lib.hid (heapB HX.out hb); have HR := Lib.hid (heapB HR.out hb); have HB := Lib.hid (bel2M HB.out hb); clear hb)
    | (go_at_call 207; refine (HL.out _).mono ?_; rintro e w' ⟨rfl, hb⟩; have HX := Lib.hid (heapB HX.out hb); have HR := Lib.hid (heapB HR.out hb); have HB := Lib.hid (bel2M HB.out hb); clear hb)
    | (refine wpList_store2 rfl _ _ rfl (w.heap.size + 1) _ _ _ _ _ 236 rfl rfl HX.out rfl rfl (by decide) rfl ?_; intro w' hz hx ho; have HX := Lib.hid hx; have HR := Lib.hid (onlyHeap ho HR.out (by omega)); have HB := Lib.hid (onlyBelow HB.out ho (by omega) (Nat.le_refl _)); clear hz hx ho)
    | (refine wpList_store1 rfl _ _ rfl (w.heap.size + 1) _ _ _ _ 236 rfl rfl HX.out (by decide) rfl ?_; intro w' hz hx ho; have HX := Lib.hid hx; have HR := Lib.hid (onlyHeap ho HR.out (by omega)); have HB := Lib.hid (onlyBelow HB.out ho (by omega) (Nat.le_refl _)); clear hz hx ho)
    | (refine wpList_load_mid rfl 236 _ rfl (w.heap.size + 1) 0 rfl _ _ (heap_all HX.out) Tryz.underlying236 rfl (by kernel_rfl) ?_)
    | (refine wpList_storeAll rfl 236 _ _ rfl w.heap.size _ _ rfl rfl HR.out rfl (by kernel_rfl) (by kernel_rfl) ?_; intro w' hz hr ho; have HR := Lib.hid hr; have HB := Lib.hid (onlyBelow HB.out ho (Nat.le_refl _) (Nat.le_refl _)); clear hz hr ho))
  refine bodyPost_ret (results_cell2 rfl _ _ w.heap.size 236 _ (0, 0) _ rfl HR.out Tryz.underlying236 rfl (by kernel_rfl)) rfl ?_
  exact ⟨by kernel_rfl, HB.out⟩
set_option maxHeartbeats 2000000 in
theorem shape_7 (w : World) : Calls Tryz.prog 185 #[.int .i64 7] w (ShpP 7 w) := by
  have HA := Lib.hid (fun n W => gAtMost_any n W)
  have HN := Lib.hid (fun n W => numbersFrom_any n W)
  have HL := Lib.hid (fun W => anyLength_any W)
  obtain ⟨x1, x2, x3⟩ := box2B w (shC shZ) (shC shZ) 236 236
  go_enter Tryz.func185, Tryz.ntmps185
  go_upto_region 2 with fail
  generalize hw0 : (w.alloc _).alloc _ = w0 at *
  have HR := Lib.hid x1
  have HX := Lib.hid x2
  have HB := Lib.hid x3
  clear x1 x2 x3 hw0
  go_wp2_with (first
    | (go_at_call 205; refine (HA.out _ _).mono ?_; rintro e w' ⟨rfl, hb⟩; have HX := Lib.hid (heapB HX.out hb); have HR := Lib.hid (heapB HR.out hb); have HB := Lib.hid (bel2M HB.out hb); clear hb)
    | (go_at_call 206; refine (HN.out _ _).mono ?_; rintro e w' ⟨rfl, hb⟩; have HX := Lib.hid (heapB HX.out hb); have HR := Lib.hid (heapB HR.out hb); have HB := Lib.hid (bel2M HB.out hb); clear hb)
    | (go_at_call 207; refine (HL.out _).mono ?_; rintro e w' ⟨rfl, hb⟩; have HX := Lib.hid (heapB HX.out hb); have HR := Lib.hid (heapB HR.out hb); have HB := Lib.hid (bel2M HB.out hb); clear hb)
    | (refine wpList_store2 rfl _ _ rfl (w.heap.size + 1) _ _ _ _ _ 236 rfl rfl HX.out rfl rfl (by decide) rfl ?_; intro w' hz hx ho; have HX := Lib.hid hx; have HR := Lib.hid (onlyHeap ho HR.out (by omega)); have HB := Lib.hid (onlyBelow HB.out ho (by omega) (Nat.le_refl _)); clear hz hx ho)
    | (refine wpList_store1 rfl _ _ rfl (w.heap.size + 1) _ _ _ _ 236 rfl rfl HX.out (by decide) rfl ?_; intro w' hz hx ho; have HX := Lib.hid hx; have HR := Lib.hid (onlyHeap ho HR.out (by omega)); have HB := Lib.hid (onlyBelow HB.out ho (by omega) (Nat.le_refl _)); clear hz hx ho)
    | (refine wpList_load_mid rfl 236 _ rfl (w.heap.size + 1) 0 rfl _ _ (heap_all HX.out) Tryz.underlying236 rfl (by kernel_rfl) ?_)
    | (refine wpList_storeAll rfl 236 _ _ rfl w.heap.size _ _ rfl rfl HR.out rfl (by kernel_rfl) (by kernel_rfl) ?_; intro w' hz hr ho; have HR := Lib.hid hr; have HB := Lib.hid (onlyBelow HB.out ho (Nat.le_refl _) (Nat.le_refl _)); clear hz hr ho))
  refine bodyPost_ret (results_cell2 rfl _ _ w.heap.size 236 _ (0, 0) _ rfl HR.out Tryz.underlying236 rfl (by kernel_rfl)) rfl ?_
  exact ⟨by kernel_rfl, HB.out⟩
set_option maxHeartbeats 2000000 in
theorem shape_9 (w : World) : Calls Tryz.prog 185 #[.int .i64 9] w (ShpP 9 w) := by
  have HA := Lib.hid (fun n W => gAtMost_any n W)
  have HN := Lib.hid (fun n W => numbersFrom_any n W)
  have HL := Lib.hid (fun W => anyLength_any W)
  obtain ⟨x1, x2, x3⟩ := box2B w (shC shZ) (shC shZ) 236 236
  go_enter Tryz.func185, Tryz.ntmps185
  go_upto_region 2 with fail
  generalize hw0 : (w.alloc _).alloc _ = w0 at *
  have HR := Lib.hid x1
  have HX := Lib.hid x2
  have HB := Lib.hid x3
  clear x1 x2 x3 hw0
  go_wp2_with (first
    | (go_at_call 205; refine (HA.out _ _).mono ?_; rintro e w' ⟨rfl, hb⟩; have HX := Lib.hid (heapB HX.out hb); have HR := Lib.hid (heapB HR.out hb); have HB := Lib.hid (bel2M HB.out hb); clear hb)
    | (go_at_call 206; refine (HN.out _ _).mono ?_; rintro e w' ⟨rfl, hb⟩; have HX := Lib.hid (heapB HX.out hb); have HR := Lib.hid (heapB HR.out hb); have HB := Lib.hid (bel2M HB.out hb); clear hb)
    | (go_at_call 207; refine (HL.out _).mono ?_; rintro e w' ⟨rfl, hb⟩; have HX := Lib.hid (heapB HX.out hb); have HR := Lib.hid (heapB HR.out hb); have HB := Lib.hid (bel2M HB.out hb); clear hb)
    | (refine wpList_store2 rfl _ _ rfl (w.heap.size + 1) _ _ _ _ _ 236 rfl rfl HX.out rfl rfl (by decide) rfl ?_; intro w' hz hx ho; have HX := Lib.hid hx; have HR := Lib.hid (onlyHeap ho HR.out (by omega)); have HB := Lib.hid (onlyBelow HB.out ho (by omega) (Nat.le_refl _)); clear hz hx ho)
    | (refine wpList_store1 rfl _ _ rfl (w.heap.size + 1) _ _ _ _ 236 rfl rfl HX.out (by decide) rfl ?_; intro w' hz hx ho; have HX := Lib.hid hx; have HR := Lib.hid (onlyHeap ho HR.out (by omega)); have HB := Lib.hid (onlyBelow HB.out ho (by omega) (Nat.le_refl _)); clear hz hx ho)
    | (refine wpList_load_mid rfl 236 _ rfl (w.heap.size + 1) 0 rfl _ _ (heap_all HX.out) Tryz.underlying236 rfl (by kernel_rfl) ?_)
    | (refine wpList_storeAll rfl 236 _ _ rfl w.heap.size _ _ rfl rfl HR.out rfl (by kernel_rfl) (by kernel_rfl) ?_; intro w' hz hr ho; have HR := Lib.hid hr; have HB := Lib.hid (onlyBelow HB.out ho (Nat.le_refl _) (Nat.le_refl _)); clear hz hr ho))
  refine bodyPost_ret (results_cell2 rfl _ _ w.heap.size 236 _ (0, 0) _ rfl HR.out Tryz.underlying236 rfl (by kernel_rfl)) rfl ?_
  exact ⟨by kernel_rfl, HB.out⟩
set_option maxHeartbeats 2000000 in
theorem shape_10 (w : World) : Calls Tryz.prog 185 #[.int .i64 10] w (ShpP 10 w) := by
  have HA := Lib.hid (fun n W => gAtMost_any n W)
  have HN := Lib.hid (fun n W => numbersFrom_any n W)
  have HL := Lib.hid (fun W => anyLength_any W)
  obtain ⟨x1, x2, x3⟩ := box2B w (shC shZ) (shC shZ) 236 236
  go_enter Tryz.func185, Tryz.ntmps185
  go_upto_region 2 with fail
  generalize hw0 : (w.alloc _).alloc _ = w0 at *
  have HR := Lib.hid x1
  have HX := Lib.hid x2
  have HB := Lib.hid x3
  clear x1 x2 x3 hw0
  go_wp2_with (first
    | (go_at_call 205; refine (HA.out _ _).mono ?_; rintro e w' ⟨rfl, hb⟩; have HX := Lib.hid (heapB HX.out hb); have HR := Lib.hid (heapB HR.out hb); have HB := Lib.hid (bel2M HB.out hb); clear hb)
    | (go_at_call 206; refine (HN.out _ _).mono ?_; rintro e w' ⟨rfl, hb⟩; have HX := Lib.hid (heapB HX.out hb); have HR := Lib.hid (heapB HR.out hb); have HB := Lib.hid (bel2M HB.out hb); clear hb)
    | (go_at_call 207; refine (HL.out _).mono ?_; rintro e w' ⟨rfl, hb⟩; have HX := Lib.hid (heapB HX.out hb); have HR := Lib.hid (heapB HR.out hb); have HB := Lib.hid (bel2M HB.out hb); clear hb)
    | (refine wpList_store2 rfl _ _ rfl (w.heap.size + 1) _ _ _ _ _ 236 rfl rfl HX.out rfl rfl (by decide) rfl ?_; intro w' hz hx ho; have HX := Lib.hid hx; have HR := Lib.hid (onlyHeap ho HR.out (by omega)); have HB := Lib.hid (onlyBelow HB.out ho (by omega) (Nat.le_refl _)); clear hz hx ho)
    | (refine wpList_store1 rfl _ _ rfl (w.heap.size + 1) _ _ _ _ 236 rfl rfl HX.out (by decide) rfl ?_; intro w' hz hx ho; have HX := Lib.hid hx; have HR := Lib.hid (onlyHeap ho HR.out (by omega)); have HB := Lib.hid (onlyBelow HB.out ho (by omega) (Nat.le_refl _)); clear hz hx ho)
    | (refine wpList_load_mid rfl 236 _ rfl (w.heap.size + 1) 0 rfl _ _ (heap_all HX.out) Tryz.underlying236 rfl (by kernel_rfl) ?_)
    | (refine wpList_storeAll rfl 236 _ _ rfl w.heap.size _ _ rfl rfl HR.out rfl (by kernel_rfl) (by kernel_rfl) ?_; intro w' hz hr ho; have HR := Lib.hid hr; have HB := Lib.hid (onlyBelow HB.out ho (Nat.le_refl _) (Nat.le_refl _)); clear hz hr ho))
  refine bodyPost_ret (results_cell2 rfl _ _ w.heap.size 236 _ (0, 0) _ rfl HR.out Tryz.underlying236 rfl (by kernel_rfl)) rfl ?_
  exact ⟨by kernel_rfl, HB.out⟩
set_option maxHeartbeats 2000000 in
theorem shape_11 (w : World) : Calls Tryz.prog 185 #[.int .i64 11] w (ShpP 11 w) := by
  have HA := Lib.hid (fun n W => gAtMost_any n W)
  have HN := Lib.hid (fun n W => numbersFrom_any n W)
  have HL := Lib.hid (fun W => anyLength_any W)
  obtain ⟨x1, x2, x3⟩ := box2B w (shC shZ) (shC shZ) 236 236
  go_enter Tryz.func185, Tryz.ntmps185
  go_upto_region 2 with fail
  generalize hw0 : (w.alloc _).alloc _ = w0 at *
  have HR := Lib.hid x1
  have HX := Lib.hid x2
  have HB := Lib.hid x3
  clear x1 x2 x3 hw0
  go_wp2_with (first
    | (go_at_call 205; refine (HA.out _ _).mono ?_; rintro e w' ⟨rfl, hb⟩; have HX := Lib.hid (heapB HX.out hb); have HR := Lib.hid (heapB HR.out hb); have HB := Lib.hid (bel2M HB.out hb); clear hb)
    | (go_at_call 206; refine (HN.out _ _).mono ?_; rintro e w' ⟨rfl, hb⟩; have HX := Lib.hid (heapB HX.out hb); have HR := Lib.hid (heapB HR.out hb); have HB := Lib.hid (bel2M HB.out hb); clear hb)
    | (go_at_call 207; refine (HL.out _).mono ?_; rintro e w' ⟨rfl, hb⟩; have HX := Lib.hid (heapB HX.out hb); have HR := Lib.hid (heapB HR.out hb); have HB := Lib.hid (bel2M HB.out hb); clear hb)
    | (refine wpList_store2 rfl _ _ rfl (w.heap.size + 1) _ _ _ _ _ 236 rfl rfl HX.out rfl rfl (by decide) rfl ?_; intro w' hz hx ho; have HX := Lib.hid hx; have HR := Lib.hid (onlyHeap ho HR.out (by omega)); have HB := Lib.hid (onlyBelow HB.out ho (by omega) (Nat.le_refl _)); clear hz hx ho)
    | (refine wpList_store1 rfl _ _ rfl (w.heap.size + 1) _ _ _ _ 236 rfl rfl HX.out (by decide) rfl ?_; intro w' hz hx ho; have HX := Lib.hid hx; have HR := Lib.hid (onlyHeap ho HR.out (by omega)); have HB := Lib.hid (onlyBelow HB.out ho (by omega) (Nat.le_refl _)); clear hz hx ho)
    | (refine wpList_load_mid rfl 236 _ rfl (w.heap.size + 1) 0 rfl _ _ (heap_all HX.out) Tryz.underlying236 rfl (by kernel_rfl) ?_)
    | (refine wpList_storeAll rfl 236 _ _ rfl w.heap.size _ _ rfl rfl HR.out rfl (by kernel_rfl) (by kernel_rfl) ?_; intro w' hz hr ho; have HR := Lib.hid hr; have HB := Lib.hid (onlyBelow HB.out ho (Nat.le_refl _) (Nat.le_refl _)); clear hz hr ho))
  refine bodyPost_ret (results_cell2 rfl _ _ w.heap.size 236 _ (0, 0) _ rfl HR.out Tryz.underlying236 rfl (by kernel_rfl)) rfl ?_
  exact ⟨by kernel_rfl, HB.out⟩
set_option maxHeartbeats 2000000 in
theorem shape_no (k : Int) (w : World) (h2 : k ≠ 2) (h3 : k ≠ 3) (h4 : k ≠ 4) (h5 : k ≠ 5) (h1 : k ≠ 1) (h8 : k ≠ 8) (h6 : k ≠ 6) (h7 : k ≠ 7) (h9 : k ≠ 9) (h10 : k ≠ 10) (h11 : k ≠ 11) : Calls Tryz.prog 185 #[.int .i64 k] w (ShpP k w) := by
  have hs : shapeM k = (shZ, false) := by
    unfold shapeM
    rw [if_neg h2, if_neg h3, if_neg h4, if_neg h5, if_neg h1, if_neg h8, if_neg h6, if_neg h7, if_neg h9, if_neg h10, if_neg h11]
  unfold ShpP
  rw [hs]
  have b2 : (k == 2) = false := by simpa using h2
  have b3 : (k == 3) = false := by simpa using h3
  have b4 : (k == 4) = false := by simpa using h4
  have b5 : (k == 5) = false := by simpa using h5
  have b1 : (k == 1) = false := by simpa using h1
  have b8 : (k == 8) = false := by simpa using h8
  have b6 : (k == 6) = false := by simpa using h6
  have b7 : (k == 7) = false := by simpa using h7
  have b9 : (k == 9) = false := by simpa using h9
  have b10 : (k == 10) = false := by simpa using h10
  have b11 : (k == 11) = false := by simpa using h11
  have HA := Lib.hid (fun n W => gAtMost_any n W)
  have HN := Lib.hid (fun n W => numbersFrom_any n W)
  have HL := Lib.hid (fun W => anyLength_any W)
  obtain ⟨x1, x2, x3⟩ := box2B w (shC shZ) (shC shZ) 236 236
  go_enter Tryz.func185, Tryz.ntmps185
  go_upto_region 2 with fail
  generalize hw0 : (w.alloc _).alloc _ = w0 at *
  have HR := Lib.hid x1
  have HX := Lib.hid x2
  have HB := Lib.hid x3
  clear x1 x2 x3 hw0
  go_wp2_with (first
    | (go_at_call 205; refine (HA.out _ _).mono ?_; rintro e w' ⟨rfl, hb⟩; have HX := Lib.hid (heapB HX.out hb); have HR := Lib.hid (heapB HR.out hb); have HB := Lib.hid (bel2M HB.out hb); clear hb)
    | (go_at_call 206; refine (HN.out _ _).mono ?_; rintro e w' ⟨rfl, hb⟩; have HX := Lib.hid (heapB HX.out hb); have HR := Lib.hid (heapB HR.out hb); have HB := Lib.hid (bel2M HB.out hb); clear hb)
    | (go_at_call 207; refine (HL.out _).mono ?_; rintro e w' ⟨rfl, hb⟩; have HX := Lib.hid (heapB HX.out hb); have HR := Lib.hid (heapB HR.out hb); have HB := Lib.hid (bel2M HB.out hb); clear hb)
    | (refine wpList_store2 rfl _ _ rfl (w.heap.size + 1) _ _ _ _ _ 236 rfl rfl HX.out rfl rfl (by decide) rfl ?_; intro w' hz hx ho; have HX := Lib.hid hx; have HR := Lib.hid (onlyHeap ho HR.out (by omega)); have HB := Lib.hid (onlyBelow HB.out ho (by omega) (Nat.le_refl _)); clear hz hx ho)
    | (refine wpList_store1 rfl _ _ rfl (w.heap.size + 1) _ _ _ _ 236 rfl rfl HX.out (by decide) rfl ?_; intro w' hz hx ho; have HX := Lib.hid hx; have HR := Lib.hid (onlyHeap ho HR.out (by omega)); have HB := Lib.hid (onlyBelow HB.out ho (by omega) (Nat.le_refl _)); clear hz hx ho)
    | (refine wpList_load_mid rfl 236 _ rfl (w.heap.size + 1) 0 rfl _ _ (heap_all HX.out) Tryz.underlying236 rfl (by kernel_rfl) ?_)
    | (refine wpList_storeAll rfl 236 _ _ rfl w.heap.size _ _ rfl rfl HR.out rfl (by kernel_rfl) (by kernel_rfl) ?_; intro w' hz hr ho; have HR := Lib.hid hr; have HB := Lib.hid (onlyBelow HB.out ho (Nat.le_refl _) (Nat.le_refl _)); clear hz hr ho))
  refine bodyPost_ret (results_cell2 rfl _ _ w.heap.size 236 _ (0, 0) _ rfl HR.out Tryz.underlying236 rfl (by kernel_rfl)) rfl ?_
  exact ⟨by kernel_rfl, HB.out⟩
theorem gShape_any (k : Int) (w : World) : Calls Tryz.prog 185 #[.int .i64 k] w (ShpP k w) := by
  by_cases h2 : k = 2
  · subst h2; exact shape_2 w
  by_cases h3 : k = 3
  · subst h3; exact shape_3 w
  by_cases h4 : k = 4
  · subst h4; exact shape_4 w
  by_cases h5 : k = 5
  · subst h5; exact shape_5 w
  by_cases h1 : k = 1
  · subst h1; exact shape_1 w
  by_cases h8 : k = 8
  · subst h8; exact shape_8 w
  by_cases h6 : k = 6
  · subst h6; exact shape_6 w
  by_cases h7 : k = 7
  · subst h7; exact shape_7 w
  by_cases h9 : k = 9
  · subst h9; exact shape_9 w
  by_cases h10 : k = 10
  · subst h10; exact shape_10 w
  by_cases h11 : k = 11
  · subst h11; exact shape_11 w
  exact shape_no k w h2 h3 h4 h5 h1 h8 h6 h7 h9 h10 h11

def CrtP (w : World) (p : Addr) (c : Crt) : Prop := EnvP w p c.1 ∧ ∃ A cc, w.cell? ⟨p.block, p.off + 2, none⟩ = some (.slice A c.2.length cc) ∧ EnvK w A cc c.2
abbrev CrtK (w : World) : Option Addr → Nat → List Crt → Prop := RowM w 3 CrtP
theorem CrtP.below {w w' : World} {p : Addr} {c : Crt} (h : CrtP w p c) (hb : Below w.heap.size w w') (hl : p.block < w.heap.size) : CrtP w' p c := by
  obtain ⟨h1, A, cc, h2, h3⟩ := h
  exact ⟨h1.below hb hl, A, cc, cellM (p := ⟨p.block, p.off + 2, none⟩) hb hl h2, h3.below hb⟩
theorem CrtK.below {w w' : World} {A : Option Addr} {c : Nat} {l : List Crt} (h : CrtK w A c l) (hb : Below w.heap.size w w') : CrtK w' A c l := RowM.below (fun p x hl h => CrtP.below h hb hl) h hb.size
structure Plc where
  x : Option Addr × Nat
  b : Option Addr × Nat
  p : Option Addr × Nat
  q : Option Addr × Nat
abbrev msC (m : Msg) (P : Plc) : Array Value := #[.int .i64 m.k, .int .i64 m.v, .int .i64 m.s, .int .i64 m.c, .int .i64 m.t, .string (strB m.d), .slice P.x.1 m.x.length P.x.2, .int .i64 m.r.1, .int .i64 m.r.2, .slice P.b.1 m.b.length P.b.2, .slice P.p.1 m.p.length P.p.2, .slice P.q.1 m.q.length P.q.2]
abbrev agM (m : Msg) (P : Plc) : Value := .agg (msC m P)
structure MsgK (w : World) (m : Msg) (P : Plc) : Prop where
  x : Bs w (.slice P.x.1 m.x.length P.x.2) m.x
  b : EnvK w P.b.1 P.b.2 m.b
  p : EnvK w P.p.1 P.p.2 m.p
  q : CrtK w P.q.1 P.q.2 m.q
theorem MsgK.below {w w' : World} {m : Msg} {P : Plc} (h : MsgK w m P) (hb : Below w.heap.size w w') : MsgK w' m P := ⟨h.x.below hb (Nat.le_refl _), h.b.below hb, h.p.below hb, h.q.below hb⟩

abbrev P0 : Plc := ⟨(none, 0), (none, 0), (none, 0), (none, 0)⟩
theorem msgK0 (w : World) : MsgK w msg0 P0 := ⟨Bs.nil w, RowM.none _ _ _, RowM.none _ _ _, RowM.none _ _ _⟩
abbrev KpB (B : Nat) (w2 W : World) : Prop := w2.heap.size ≤ W.heap.size ∧ ∀ k, B ≤ k → k < w2.heap.size → W.heap[k]? = w2.heap[k]?
theorem keep_alloc {B : Nat} (w2 : World) (o : Obj) : KpB B w2 (w2.alloc o) := ⟨(alloc1B w2 o).size, fun k _ h2 => (alloc1B w2 o).block k h2⟩
theorem keep_only {B g : Nat} {w2 W W' : World} (h : KpB B w2 W) (ho : Only g W W') (hg : g < B) : KpB B w2 W' :=
  ⟨Nat.le_trans h.1 ho.size, fun k h1 h2 => (ho.block k (Nat.lt_of_lt_of_le h2 h.1) (by intro e; injection e with e; omega)).trans (h.2 k h1 h2)⟩
theorem keep_below {B : Nat} {w2 W W' : World} (h : KpB B w2 W) (hb : Below W.heap.size W W') : KpB B w2 W' :=
  ⟨Nat.le_trans h.1 hb.size, fun k h1 h2 => (hb.block k (Nat.lt_of_lt_of_le h2 h.1)).trans (h.2 k h1 h2)⟩

abbrev msH : Array Value := #[.int .i64 0, .int .i64 0, .int .i64 0, .int .i64 0, .int .i64 0, .string ⟨#[]⟩, .slice none 0 0, .int .i64 0, .int .i64 0, .slice none 0 0, .slice none 0 0, .slice none 0 0]
def DecN (x : Msg × Int) (w : World) (e : Ending) (w' : World) : Prop := ∃ P, e = .returned (.tuple #[agM x.1 P, .int .i64 x.2]) ∧ (∀ W, KpB w.heap.size w' W → MsgK W x.1 P) ∧ Below w.heap.size w w'
theorem decN0 (w w' : World) (n : Int) (h : Below w.heap.size w w') : DecN (msg0, n) w (.returned (.tuple #[agM msg0 P0, .int .i64 n])) w' := ⟨P0, rfl, fun W _ => msgK0 W, h⟩
theorem kpb_to {B B' : Nat} {w2 w9 W : World} (h : KpB B w2 w9) (h2 : KpB B' w9 W) (hB : B' ≤ B) : KpB B w2 W :=
  ⟨Nat.le_trans h.1 h2.1, fun k h3 h4 => (h2.2 k (Nat.le_trans hB h3) (Nat.lt_of_lt_of_le h4 h.1)).trans (h.2 k h3 h4)⟩
theorem kpb_below {B : Nat} {w W : World} (h : Below w.heap.size w W) : KpB B w W := ⟨h.size, fun k _ h2 => h.block k h2⟩
theorem kpb_refl (B : Nat) (w : World) : KpB B w w := ⟨Nat.le_refl _, fun _ _ _ => rfl⟩

end Go.Proofs.YticfnjihjpgneaaGreat
