/- Layer 3: the document's authority: signing. -/
import Derived.Test.YtlbbehhjehpefaaARef
import Derived.Deep.RegionLaw
namespace Go.Proofs.Ytlbbehhjehpefaa
open Go.RowKit
set_option linter.unusedVariables false

/-- nothing has turned but blocks of S and new ones -/
structure Off (S : Nat → Prop) (w w' : World) : Prop where
  os : w'.os = w.os
  tape : w'.tape = w.tape
  output : w'.output = w.output
  size : w.heap.size ≤ w'.heap.size
  block : ∀ k, k < w.heap.size → ¬ S k → w'.heap[k]? = w.heap[k]?
theorem Off.of_below {S : Nat → Prop} {w w' : World} (h : Below w.heap.size w w') : Off S w w' := ⟨h.os, h.tape, h.output, h.size, fun k hk _ => h.block k hk⟩
theorem Off.of_grown {S : Nat → Prop} {w w' : World} {row : Option Nat} (h : w.grownBy w' row) (hS : ∀ k, row = some k → S k) : Off S w w' := ⟨h.os, h.tape, h.output, h.size, fun k hk hn => h.block k hk fun e => hn (hS k e.symm)⟩
theorem Off.trans {S : Nat → Prop} {w w1 w' : World} (h : Off S w w1) (h1 : Off S w1 w') : Off S w w' :=
  ⟨h1.os.trans h.os, h1.tape.trans h.tape, h1.output.trans h.output, Nat.le_trans h.size h1.size, fun k hk hn => (h1.block k (Nat.lt_of_lt_of_le hk h.size) hn).trans (h.block k hk hn)⟩

/-- an envelope more, as a step of a region that draws its order -/
theorem step_append2 {P : Program} {w : World} {ops : Array Oper} {o : Oper} {a : Act} {K : Act → World → Prop} {Q : Exit → Act → World → Prop} {E : Prop}
    (hgd : o.guard = none) (s x : Operand) (t : TypeId)
    (ho : o.op = .call { callee := .builtin .append, args := #[s, x], argTypes := #[t, t] })
    (base : Nat) (e : TypeId) (i : TypeInfo) (z : Value) (bytes : Nat) (ht : P.underlying t = some (.slice e)) (hi : P.info? e = some i) (hz : i.zero = some z)
    (hsize : i.size = 2) (hby : i.bytes = bytes) (hzs : z.cells.size = 2)
    (v : Value) (n : Nat) (xs : List Value) (hs : a.eval s = v) (hown : w.ownsRow base e 2 v n xs)
    (H : Nat) (x0 x1 : Value) (hx : a.eval x = .slice (some ⟨H, 0, none⟩) 1 1) (hc0 : w.cell? ⟨H, 0, none⟩ = some x0) (hc1 : w.cell? ⟨H, 1, none⟩ = some x1) (h0 : x0.oneCell' = true) (h1 : x1.oneCell' = true)
    (h63 : n + 1 ≤ maxLen) (hbytes : (n + 1) * bytes ≤ 140737488355328) (hbase : base ≤ w.heap.size)
    (h : ∀ v' w', w'.ownsRow base e 2 v' (n + 1) (xs ++ [x0, x1]) → w.grownBy w' v.ownBlock → (v'.ownBlock = v.ownBlock ∨ v'.ownBlock = some w.heap.size) → K (a.put o.dst v') w') :
    if Region.wanted o (yielded ops a.tmps) = true then Oper.wp P o a w K Q else E := by
  have hw : Region.wanted o (yielded ops a.tmps) = true := by simp [Region.wanted, hgd]
  rw [if_pos hw]
  obtain ⟨v', w', hrun, h2, h3, -, h5⟩ := run_append_own_at (P := P) w base t o.type e i z 2 bytes ht hi hz hsize hby hzs (by decide) v n xs hown ⟨H, 0, none⟩ 1 1 [x0, x1] rfl
    (fun j u hj => by
      rw [Addr.add_lit]
      match j with
      | 0 => simp at hj; subst hj; exact hc0
      | 1 => simp at hj; subst hj; exact hc1
      | j + 2 => simp at hj)
    (by intro u hu; simp at hu; rcases hu with rfl | rfl <;> assumption) h63 hbytes hbase
  unfold Oper.wp execOp
  simp only [ho, resolve, invoke, builtin, Sem.run_bind, Sem.run_pure, Result.andThen_ok, List.map_toArray, List.map_cons, List.map_nil, hs, hx, hrun]
  exact h v' w' h2 h3 h5

theorem own_ty {w : World} {B e sz n : Nat} {v : Value} {xs : List Value} (h : w.ownsRow B e sz v n xs) (k : Nat) (hk : v.ownBlock = some k) : ∃ cs fr, w.heap[k]? = some (.cells cs e fr) := by
  rcases h.2 with ⟨rfl, -⟩ | ⟨g, cap, cur, rfl, -, hg, -⟩
  · cases hk
  · simp [Value.ownBlock] at hk
    subst hk
    exact ⟨cur, _, hg⟩

theorem own_slice {w : World} {B e sz n : Nat} {v : Value} {xs : List Value} (h : w.ownsRow B e sz v n xs) : ∃ A c, v = .slice A n c := by
  rcases h.2 with ⟨rfl, rfl⟩ | ⟨g, cap, cur, rfl, -⟩
  · exact ⟨none, 0, rfl⟩
  · exact ⟨_, cap, rfl⟩

/-- a pair more in the document's table -/
theorem DT.push {W w4 : World} {g : Nat} {f c s : Int} {v v4 y : Value} {l : List UInt8} {E : List Tri} {S : Nat → Prop} (h : DT W g f c v E S) (hy : Bt W y l) (hyS : l ≠ [] → ∀ k, y.ownBlock = some k → S k)
    (hown : w4.ownsRow 0 40 2 v4 (E.length + 1) (flatT E ++ [.int .i64 s, y])) (hg : W.grownBy w4 v.ownBlock) (ho : v4.ownBlock = v.ownBlock ∨ v4.ownBlock = some W.heap.size) (hS : S W.heap.size) :
    DT (w4.setCell ⟨g, 3, none⟩ v4) g f c v4 (E ++ [(s, l, y)]) S := by
  have hgl : g < W.heap.size := (Array.getElem?_eq_some_iff.1 h.head.1).1
  have hgv : v.ownBlock ≠ some g := fun e => by
    obtain ⟨cs, fr, hk⟩ := own_ty h.row g e
    have := h.head.1
    rw [hk] at this
    injection this with this
    injection this with _ this
    exact absurd this (by decide)
  have hhead : w4.heap[g]? = some (.cells #[.bool true, .int .i64 f, .int .i64 c, v] 47 (0, 0)) := (hg.block g hgl (fun e => hgv e.symm)).trans h.head.1
  have hset : ∀ k, k ≠ g → (w4.setCell ⟨g, 3, none⟩ v4).heap[k]? = w4.heap[k]? := fun k hk => Below.heap_setCell _ _ _ _ (by intro e; exact hk e)
  have hgv4 : ∀ k, v4.ownBlock = some k → k ≠ g := fun k hk e => by
    subst e
    obtain ⟨cs, fr, hk'⟩ := own_ty hown k hk
    rw [hhead] at hk'
    injection hk' with hk'
    injection hk' with _ hk'
    exact absurd hk' (by decide)
  have hvS : ∀ k, v4.ownBlock = some k → S k := fun k hk => by
    rcases ho with ho | ho
    · exact h.at_v k (ho ▸ hk)
    · rw [hk] at ho; injection ho with ho; rw [ho]; exact hS
  have hsz : W.heap.size ≤ (w4.setCell ⟨g, 3, none⟩ v4).heap.size := by have := hg.size; simpa [World.setCell] using this
  refine ⟨⟨?_, h.head.2⟩, ?_, ?_, h.at_g, hvS⟩
  · simp [World.setCell, Array.getElem?_modify, hhead]
  · rw [flatT_snoc, List.length_append, List.length_singleton]
    exact own_keep hown fun k hk => hset k (hgv4 k hk)
  · intro p hp
    have hp' : Bt W p.2.2 p.2.1 ∧ (p.2.1 ≠ [] → ∀ k, p.2.2.ownBlock = some k → S k) := by
      rcases List.mem_append.1 hp with hp | hp
      · exact h.body p hp
      · rw [List.mem_singleton.1 hp]; exact ⟨hy, hyS⟩
    have hk : p.2.1 ≠ [] → ∀ k, p.2.2.ownBlock = some k → (w4.setCell ⟨g, 3, none⟩ v4).heap[k]? = W.heap[k]? := fun hne k he => by
      obtain ⟨cs, fr, hty⟩ := hp'.1.2 hne k he
      have hkl := hp'.1.1.lt hne k he
      have h1 : k ≠ g := by
        rintro rfl
        rw [h.head.1] at hty
        injection hty with hty
        injection hty with _ hty
        exact absurd hty (by decide)
      have h2 : some k ≠ v.ownBlock := fun e => by
        obtain ⟨cs', fr', hk'⟩ := own_ty h.row k e.symm
        rw [hk'] at hty
        injection hty with hty
        injection hty with _ hty
        exact absurd hty (by decide)
      exact (hset k h1).trans (hg.block k hkl h2)
    exact ⟨⟨hp'.1.1.keep hsz hk, hp'.1.2.keep hk⟩, hp'.2⟩

/-- the table stays while an envelope beside it is written -/
theorem DT.beside {w w' : World} {g h : Nat} {f c : Int} {v x y : Value} {E : List Tri} {S : Nat → Prop} (hD : DT w g f c v E S) (hev : Ev w h x y) (hv : v.ownBlock ≠ some h) (hon : w.grownBy w' (some h)) : DT w' g f c v E S := by
  have hev' : w.heap[h]? = some (.cells #[x, y] 40 (0, 0)) := hev
  have h' : DT w g f c v E (fun k => S k ∧ k ≠ h) := ⟨hD.head, hD.row, fun p hp => ⟨(hD.body p hp).1, fun hne k hk => ⟨(hD.body p hp).2 hne k hk, fun e => by
      subst e
      obtain ⟨cs, fr, hty⟩ := (hD.body p hp).1.2 hne k hk
      rw [hev'] at hty
      injection hty with hty
      injection hty with _ hty
      exact absurd hty (by decide)⟩⟩, ⟨hD.at_g, fun e => by
      subst e
      have hty := hD.head.1
      rw [hev'] at hty
      injection hty with hty
      injection hty with _ hty
      exact absurd hty (by decide)⟩, fun k hk => ⟨hD.at_v k hk, fun e => hv (e ▸ hk)⟩⟩
  exact (h'.grown hon (fun k hk hS => hS.2 (by injection hk with hk; exact hk.symm))).mono (fun _ _ h => h.1)

/-- what the document's Sign leaves -/
def SignsR (g : Nat) (f c s : Int) (l : List UInt8) (E : List Tri) (S : Nat → Prop) (w : World) (e : Ending) (w' : World) : Prop :=
  ∃ v' vf E', e = .returned (.tuple #[.agg #[.int .i64 (signS f c s l), vf], .int .i64 (signE f c s l)]) ∧ Bs w' vf (signL f c s l) ∧ DT w' g f c v' E' S ∧ pairsT E' = signT f c s l (pairsT E) ∧ Off S w w' ∧ New w.heap.size vf

set_option maxHeartbeats 1000000 in
theorem rSign_any (g : Nat) (f c s : Int) (v y : Value) (l : List UInt8) (E : List Tri) (S : Nat → Prop) (w : World) (h : DT w g f c v E S) (hs : ok64 s) (hv : Bs w y l) (hl : l.length ≤ 1000000000) (hE : E.length ≤ 1000000000) (hS : ∀ k, w.heap.size ≤ k → S k) :
    Calls Try.prog 19 #[.pointer (some ⟨g, 0, none⟩), .int .i64 s, y] w (SignsR g f c s l E S w) := by
  obtain ⟨i0, hi, hz0, hz1, hz2⟩ := info_parts u8info
  obtain ⟨i1, hj, hy0, hy1, hy2⟩ := info_parts envinfo
  have hb0 : Below w.heap.size w (w.alloc (.cells #[.int .i64 0, .slice none 0 0] 40)) := (Below.refl _ _).alloc (Nat.le_refl _) _
  have hk := rKnown_any (h.below hb0).head s hs
  have hev0 : Ev (w.alloc (.cells #[.int .i64 0, .slice none 0 0] 40)) w.heap.size (.int .i64 0) (.slice none 0 0) := heap_alloc_new _ _
  rcases hkn : knB f c s with _ | _
  · have he := signE_no (l := l) hkn
    unfold SignsR signS signL signT
    rw [he]
    simp only [show ((30 : Int) = 0) = False by simp, if_false]
    rw [hkn] at hk
    have HK := Lib.hid hk
    clear hk he hv hkn hev0
    go_enter Try.func19, Try.ntmps19
    go_wp2_with (first
      | (go_at_call 39; refine HK.out.mono ?_; rintro e w' ⟨rfl, hww⟩; rw [hww]; clear hww w'))
    (try simp only [Exit.inBlock, Exit.then])
    refine bodyPost_ret (results_cell2 rfl _ _ w.heap.size 40 _ (0, 0) _ rfl (heap_alloc_new _ _) Try.underlying40 rfl envSize) rfl ?_
    exact ⟨_, _, E, rfl, Bs.nil _, h.below hb0, rfl, Off.of_below hb0, New.nil _⟩
  · rw [hkn] at hk
    have HK := Lib.hid hk
    by_cases hlong : 16777216 < l.length
    · have he := signE_long (l := l) hkn hlong
      unfold SignsR signS signL signT
      rw [he]
      simp only [show ((11 : Int) = 0) = False by simp, if_false]
      obtain ⟨A, cc, rfl, -⟩ := hv.open
      have hlI : (16777216 : Int) < (l.length : Int) := by omega
      clear hk he hv hkn hev0
      go_enter Try.func19, Try.ntmps19
      go_wp2_with (first
        | (go_at_call 39; refine HK.out.mono ?_; rintro e w' ⟨rfl, hww⟩; rw [hww]; clear hww w'))
      (try simp only [Exit.inBlock, Exit.then])
      refine bodyPost_ret (results_cell2 rfl _ _ w.heap.size 40 _ (0, 0) _ rfl (heap_alloc_new _ _) Try.underlying40 rfl envSize) rfl ?_
      exact ⟨_, _, E, rfl, Bs.nil _, h.below hb0, rfl, Off.of_below hb0, New.nil _⟩
    · have he := signE_ok (l := l) hkn hlong
      unfold SignsR signS signL signT
      rw [he]
      simp only [if_true]
      have hlI : (l.length : Int) ≤ 16777216 := by omega
      have HV := Lib.hid hv
      have HD := Lib.hid h
      have HS := Lib.hid hS
      obtain ⟨A, cc, rfl, -⟩ := hv.open
      obtain ⟨w0, hw0⟩ : ∃ w0, w0 = w.alloc (.cells #[.int .i64 0, .slice none 0 0] 40) := ⟨_, rfl⟩
      have hz : w0.heap.size = w.heap.size + 1 := by rw [hw0]; simp
      rw [← hw0] at hb0 hev0
      have hv0 := hv.below hb0 (Nat.le_refl _)
      have HV0 := Lib.hid hv0
      have HW := Lib.hid hw0
      clear hz
      rcases hm : decide ((s, l) ∈ pairsT E) with _ | _
      · have hT : addP (pairsT E) s l = pairsT E ++ [(s, l)] := by unfold addP; rw [if_neg (by simpa using hm)]
        rw [hT]
        have HM := Lib.hid hm
        clear hk he hv hkn hw0 h hS hv0 hm hT
        go_enter Try.func19, Try.ntmps19
        go_wp2_with (first
          | (go_at_call 39; refine HK.out.mono ?_; rintro e w' ⟨rfl, hww⟩; rw [hww, ← HW.out]; clear hww w')
          | (at_builtin; refine wpList_append_rdo _ rfl (.tmp 19) (.tmp 20) 34 rfl w0.heap.size 5 i0 (.int .u8 0) 1 Try.underlying34 hi hz0 hz1 hz2 rfl _ _ _ rfl (own_empty _ _ _ _ (Nat.le_refl _) rfl) _ _ rfl (HV0.out.below ((Below.refl _ _).alloc (Nat.le_refl _) _) (Nat.le_refl _)) (bc_one _) (by simp; unfold maxLen; omega) (by simp; omega) (by simp) ?_; intro v1 w1 hown1 hg1 ho1; have hb1 : Below w0.heap.size w0 w1 := ((Below.refl w0.heap.size w0).alloc (Nat.le_refl _) _).grown hg1 (by simp) (by intro k h; injection h with h; simp only at h; omega); have hnw1 := New.of_own hown1; have hty1 := Ty.of_own hown1 l; have hbs1 : Bs w1 v1 l := Rd.of_own (by simpa using hown1); have hbw1 : Below w.heap.size w w1 := hb0.trans (hb1.mono hb0.size); obtain ⟨A1, c1, rfl, -, -, -, -⟩ := hbs1.open; clear hg1 ho1 hown1)
          | (go_at_call 42; refine (Has_any g f c s v _ l E S _ (HD.out.below (hbw1.alloc hbw1.size _)) (hbs1.below ((Below.refl _ _).alloc (Nat.le_refl _) _) (Nat.le_refl _))).mono ?_; rw [HM.out]; rintro e w3 ⟨rfl, hb3⟩; obtain ⟨d0, d1, -, -, -⟩ := Ev.open (Ev.below (heap_alloc_new _ _) hb3); obtain ⟨y0, y1, z0, z1, -⟩ := Ev.open (((hev0.below hb1).below ((Below.refl _ _).alloc (Nat.le_refl _) (.cells #[.int .i64 s, .slice A1 l.length c1] 40))).below hb3)))
        have hB3 : Below w.heap.size w w3 := (hbw1.alloc hbw1.size _).trans (hb3.mono (by have := hbw1.size; simp; omega))
        have hD3 : DT w3 g f c v E (fun k => k < w.heap.size ∧ S k) := (HD.out.mono fun k hk hk' => ⟨hk, hk'⟩).below hB3
        have hev3 : Ev w3 w1.heap.size (.int .i64 s) (.slice A1 l.length c1) := Ev.below (heap_alloc_new _ _) hb3
        have hev6 : Ev w3 w.heap.size (.int .i64 0) (.slice none 0 0) := ((hev0.below hb1).below ((Below.refl _ _).alloc (Nat.le_refl _) (.cells #[.int .i64 s, .slice A1 l.length c1] 40))).below hb3
        have hbs3 := (hbs1.below ((Below.refl _ _).alloc (Nat.le_refl _) (.cells #[.int .i64 s, .slice A1 l.length c1] 40)) (Nat.le_refl _)).below hb3 (Nat.le_refl _)
        have hty3 := (hty1.below ((Below.refl _ _).alloc (Nat.le_refl _) (.cells #[.int .i64 s, .slice A1 l.length c1] 40)) (Nat.le_refl _)).below hb3 (Nat.le_refl _)
        have hlt13 := hev3.open.2.2.2.2
        have hlt6 : w.heap.size < w0.heap.size := hev0.open.2.2.2.2
        obtain ⟨W2, hW2⟩ : ∃ W2, W2 = (w3.alloc (.cells #[.int .i64 s, .slice A1 l.length c1] 40)).drew := ⟨_, rfl⟩
        have hb32 : Below w3.heap.size w3 W2 := by rw [hW2]; exact ((Below.refl _ _).alloc (Nat.le_refl _) _).drew
        have hevA : Ev W2 w3.heap.size (.int .i64 s) (.slice A1 l.length c1) := by rw [hW2]; exact heap_alloc_new w3 _
        have hDA := hD3.below hb32
        have hevB := hev3.below hb32
        have hevC := hev6.below hb32
        have hsz2 := hb32.size
        have hgz : g < w.heap.size := hD3.at_g.1
        have hvz : ∀ k, v.ownBlock = some k → k < w.heap.size := fun k hk => (hD3.at_v k hk).1
        have hs1 := hbw1.size
        have hgv : v.ownBlock ≠ some g := fun e => by
          obtain ⟨cs, fr, hk⟩ := own_ty hDA.row g e
          have := hDA.head.1
          rw [hk] at this
          injection this with this
          injection this with _ this
          exact absurd this (by decide)
        have hcell : ∀ W, W2.grownBy W v.ownBlock → W.heap[g]? = some (.cells #[.bool true, .int .i64 f, .int .i64 c, v] 47 (0, 0)) ∧ Ev W w1.heap.size (.int .i64 s) (.slice A1 l.length c1) ∧ Ev W w.heap.size (.int .i64 0) (.slice none 0 0) := fun W hg =>
          ⟨(hg.block g (by omega) (fun e => hgv e.symm)).trans hDA.head.1, hevB.kept hg (fun e => by have := hvz _ e.symm; omega), hevC.kept hg (fun e => by have := hvz _ e.symm; omega)⟩
        have hfacts : ∀ W : World, W.heap[g]? = some (.cells #[.bool true, .int .i64 f, .int .i64 c, v] 47 (0, 0)) ∧ Ev W w1.heap.size (.int .i64 s) (.slice A1 l.length c1) → W.cell? ⟨g, 3, none⟩ = some v ∧ W.frozen? ⟨g, 3, none⟩ = false ∧ W.cell? ⟨w1.heap.size, 0, none⟩ = some (.int .i64 s) ∧ W.cell? ⟨w1.heap.size, 1, none⟩ = some (.slice A1 l.length c1) := fun W hW =>
          ⟨(cell_of_row W g 3 _ _ (0, 0) hW.1).trans rfl, by simp [World.frozen?, hW.1], hW.2.open.1, hW.2.open.2.1⟩
        have hS0 := hfacts w3.drew ⟨hD3.head.1, hev3⟩
        have hSA := hfacts W2 ⟨hDA.head.1, hevB⟩
        have hcA := hevA.open
        have HDA := Lib.hid hDA
        have HCELL := Lib.hid hcell
        have HFACTS := Lib.hid hfacts
        have HD3 := Lib.hid hD3
        have HW2 := Lib.hid hW2
        rw [hW2] at hSA
        clear d0 d1 y0 y1 z0 z1 hcell hfacts hW2 hD3 hevB hevC
        obtain ⟨s1, s2, s3, s4⟩ := hS0
        obtain ⟨t1, t2, t3, t4⟩ := hSA
        go_region_law (rw [← HW2.out]; refine step_append2 rfl (.tmp 31) (.tmp 33) 45 rfl 0 40 i1 (.agg #[.int .i64 0, .slice none 0 0]) 32 Try.underlying45 hj hy0 hy1 hy2 rfl v E.length (flatT E) rfl HDA.out.row w3.heap.size _ _ rfl hcA.1 hcA.2.1 rfl rfl (by unfold maxLen; omega) (by omega) (Nat.zero_le _) ?_; intro v4 w4 hown4 hg4 ho4; obtain ⟨A4, c4, rfl⟩ := own_slice hown4; have hlater := HFACTS.out w4 ⟨(HCELL.out w4 hg4).1, (HCELL.out w4 hg4).2.1⟩)
        all_goals
          obtain ⟨hA4, hE4, hF4⟩ := HCELL.out _ hg4
          have hBt2 : Bt W2 (.slice A1 l.length c1) l := ⟨hbs3.below hb32 (Nat.le_refl _), hty3.below hb32 (Nat.le_refl _)⟩
          have hD5 := DT.push (s := s) (HDA.out.mono (S' := S) (fun k _ hk => hk.2)) hBt2 (fun _ k hk => HS.out k (by have := hnw1 k hk; omega)) hown4 hg4 ho4 (HS.out _ (by omega))
          have hon5 : w4.grownBy (w4.setCell ⟨g, 3, none⟩ (.slice A4 (E.length + 1) c4)) (some g) := Only.set (Only.refl _ _) 3 _
          have hev5 := hE4.kept hon5 (by intro e; injection e with e; omega)
          have hev6' := hF4.kept hon5 (by intro e; injection e with e; omega)
          have hoff : Off S w (w4.setCell ⟨g, 3, none⟩ (.slice A4 (E.length + 1) c4)) :=
            (((Off.of_below hB3).trans (Off.of_below hb32)).trans (Off.of_grown hg4 (fun k hk => (HDA.out.at_v k hk).2))).trans (Off.of_grown hon5 (fun k hk => by injection hk with hk; subst hk; exact HDA.out.at_g.2))
          have hz5 := hoff.size
          have hv5 : (Value.slice A4 (E.length + 1) c4).ownBlock ≠ some w.heap.size := fun e => by
            rcases ho4 with ho | ho
            · have := hvz _ (ho ▸ e); omega
            · rw [e] at ho; injection ho with ho; omega
          have hbs5 : Bs (w4.setCell ⟨g, 3, none⟩ (.slice A4 (E.length + 1) c4)) (.slice A1 l.length c1) l := (hD5.body (s, l, .slice A1 l.length c1) (by simp)).1.1
          have hD5' := hD5
          clear hD5 hA4 hE4 hF4 hown4 hg4 ho4 hlater s1 s2 s3 s4 t1 t2 t3 t4 hcA hevA hDA hon5 hBt2 hbs3 hty3
          generalize w4.setCell ⟨g, 3, none⟩ (.slice A4 (E.length + 1) c4) = w5 at *
          obtain ⟨d0, d1, -, -, -⟩ := hev5.open
          obtain ⟨y0, y1, z0, z1, hlt65⟩ := hev6'.open
          have HD5 := Lib.hid hD5'
          clear hD5'
          go_wp2
          have hon : w5.grownBy ((w5.setCell ⟨w.heap.size, 0, none⟩ (.int .i64 s)).setCell ⟨w.heap.size, 1, none⟩ (.slice A1 l.length c1)) (some w.heap.size) := (Only.set (Only.set (Only.refl _ _) 0 _) 1 _)
          (try simp only [Exit.inBlock, Exit.then])
          refine bodyPost_ret (results_cell2 rfl _ _ w.heap.size 40 _ (0, 0) _ rfl (hev6'.set2 _ _) Try.underlying40 rfl envSize) rfl ?_
          refine ⟨_, _, _, rfl, hbs5.grown hon (fun _ k hk e => ?_), HD5.out.beside hev6' hv5 hon, by simp [pairsT], hoff.trans (Off.of_grown hon (fun k hk => ?_)), hnw1.mono (Nat.le_of_lt hlt6)⟩
          · injection e with e
            have := hnw1 k hk
            omega
          · injection hk with hk
            exact HS.out k (by omega)
      · have hT : addP (pairsT E) s l = pairsT E := by unfold addP; rw [if_pos (by simpa using hm)]
        rw [hT]
        have HM := Lib.hid hm
        clear hk he hv hkn hw0 h hS hv0 hm hT
        go_enter Try.func19, Try.ntmps19
        go_wp2_with (first
          | (go_at_call 39; refine HK.out.mono ?_; rintro e w' ⟨rfl, hww⟩; rw [hww, ← HW.out]; clear hww w')
          | (at_builtin; refine wpList_append_rdo _ rfl (.tmp 19) (.tmp 20) 34 rfl w0.heap.size 5 i0 (.int .u8 0) 1 Try.underlying34 hi hz0 hz1 hz2 rfl _ _ _ rfl (own_empty _ _ _ _ (Nat.le_refl _) rfl) _ _ rfl (HV0.out.below ((Below.refl _ _).alloc (Nat.le_refl _) _) (Nat.le_refl _)) (bc_one _) (by simp; unfold maxLen; omega) (by simp; omega) (by simp) ?_; intro v1 w1 hown1 hg1 ho1; have hb1 : Below w0.heap.size w0 w1 := ((Below.refl w0.heap.size w0).alloc (Nat.le_refl _) _).grown hg1 (by simp) (by intro k h; injection h with h; simp only at h; omega); have hnw1 := New.of_own hown1; have hty1 := Ty.of_own hown1 l; have hbs1 : Bs w1 v1 l := Rd.of_own (by simpa using hown1); have hbw1 : Below w.heap.size w w1 := hb0.trans (hb1.mono hb0.size); obtain ⟨A1, c1, rfl, -, -, -, -⟩ := hbs1.open; clear hg1 ho1 hown1)
          | (go_at_call 42; refine (Has_any g f c s v _ l E S _ (HD.out.below (hbw1.alloc hbw1.size _)) (hbs1.below ((Below.refl _ _).alloc (Nat.le_refl _) _) (Nat.le_refl _))).mono ?_; rw [HM.out]; rintro e w3 ⟨rfl, hb3⟩; obtain ⟨d0, d1, -, -, -⟩ := Ev.open (Ev.below (heap_alloc_new _ _) hb3); obtain ⟨y0, y1, z0, z1, -⟩ := Ev.open (((hev0.below hb1).below ((Below.refl _ _).alloc (Nat.le_refl _) (.cells #[.int .i64 s, .slice A1 l.length c1] 40))).below hb3)))
        have hB3 : Below w.heap.size w w3 := (hbw1.alloc hbw1.size _).trans (hb3.mono (by have := hbw1.size; simp; omega))
        have hD3 : DT w3 g f c v E (fun k => k < w.heap.size ∧ S k) := (HD.out.mono fun k hk hk' => ⟨hk, hk'⟩).below hB3
        have hev6 : Ev w3 w.heap.size (.int .i64 0) (.slice none 0 0) := ((hev0.below hb1).below ((Below.refl _ _).alloc (Nat.le_refl _) (.cells #[.int .i64 s, .slice A1 l.length c1] 40))).below hb3
        have hbs3 := (hbs1.below ((Below.refl _ _).alloc (Nat.le_refl _) (.cells #[.int .i64 s, .slice A1 l.length c1] 40)) (Nat.le_refl _)).below hb3 (Nat.le_refl _)
        have hlt6 : w.heap.size < w0.heap.size := hev0.open.2.2.2.2
        have hon : w3.grownBy ((w3.setCell ⟨w.heap.size, 0, none⟩ (.int .i64 s)).setCell ⟨w.heap.size, 1, none⟩ (.slice A1 l.length c1)) (some w.heap.size) := (Only.set (Only.set (Only.refl _ _) 0 _) 1 _)
        (try simp only [Exit.inBlock, Exit.then])
        refine bodyPost_ret (results_cell2 rfl _ _ w.heap.size 40 _ (0, 0) _ rfl (hev6.set2 _ _) Try.underlying40 rfl envSize) rfl ?_
        refine ⟨v, _, E, rfl, hbs3.grown hon (fun _ k hk e => ?_), (hD3.grown hon (fun k hk hk' => ?_)).mono (fun k _ hk => hk.2), rfl, (Off.of_below hB3).trans (Off.of_grown hon (fun k hk => ?_)), hnw1.mono (Nat.le_of_lt hlt6)⟩
        · injection e with e
          have := hnw1 k hk
          omega
        · injection hk with hk
          omega
        · injection hk with hk
          exact HS.out k (by omega)
end Go.Proofs.Ytlbbehhjehpefaa
