/- Layer 3: AuthnCounts. -/
import Derived.Test.YtlbbehhjehpefaaALaw2
namespace Go.Proofs.Ytlbbehhjehpefaa
open Go.RowKit
set_option linter.unusedVariables false

/-- an envelope more -/
theorem wpList_append2 {P : Program} (w : World) {ops : Array Oper} {rest : List Oper} {o : Oper} {a : Act} {Q : Exit → Act → World → Prop} (hgd : o.guard = none) (s x : Operand) (t : TypeId)
    (ho : o.op = .call { callee := .builtin .append, args := #[s, x], argTypes := #[t, t] })
    (base : Nat) (e : TypeId) (i : TypeInfo) (z : Value) (bytes : Nat) (ht : P.underlying t = some (.slice e)) (hi : P.info? e = some i) (hz : i.zero = some z)
    (hsize : i.size = 2) (hby : i.bytes = bytes) (hzs : z.cells.size = 2)
    (v : Value) (n : Nat) (xs : List Value) (hs : a.eval s = v) (hown : w.ownsRow base e 2 v n xs)
    (H : Nat) (x0 x1 : Value) (hx : a.eval x = .slice (some ⟨H, 0, none⟩) 1 1) (hc0 : w.cell? ⟨H, 0, none⟩ = some x0) (hc1 : w.cell? ⟨H, 1, none⟩ = some x1) (h0 : x0.oneCell' = true) (h1 : x1.oneCell' = true)
    (h63 : n + 1 ≤ maxLen) (hbytes : (n + 1) * bytes ≤ 140737488355328) (hbase : base ≤ w.heap.size)
    (h : ∀ v' w', w'.ownsRow base e 2 v' (n + 1) (xs ++ [x0, x1]) → w.grownBy w' v.ownBlock → wpList P ops Q rest (a.put o.dst v') w') : wpList P ops Q (o :: rest) a w :=
  wpList_plain hgd fun K hK => by
    obtain ⟨v', w', hrun, h2, h3, -, h5⟩ := run_append_own_at (P := P) w base t o.type e i z 2 bytes ht hi hz hsize hby hzs (by decide) v n xs hown ⟨H, 0, none⟩ 1 1 [x0, x1] rfl
      (fun j u hj => by
        rw [Addr.add_lit]
        match j with
        | 0 => simp at hj; subst hj; exact hc0
        | 1 => simp at hj; subst hj; exact hc1
        | j + 2 => simp at hj)
      (by intro u hu; simp at hu; rcases hu with rfl | rfl <;> assumption) h63 hbytes hbase
    unfold Oper.wp execOp
    simp only [ho, resolve, invoke, builtin, Sem.run_bind, Sem.run_pure, Result.andThen_ok, List.map_toArray, List.map_cons, List.map_nil, hs, hx, hrun]
    exact hK _ _ (h v' w' h2 h3)

/-- envelopes of these signers, of no bytes -/
def bare (l : List Int) : List (Int × Value) := l.map fun x => (x, .slice none 0 0)
theorem bare_take (l : List Int) (k : Nat) (h : k < l.length) : flatE (bare (l.take (k + 1))) = flatE (bare (l.take k)) ++ [.int .i64 l[k], .slice none 0 0] := by
  unfold bare
  rw [List.take_succ_eq_append_getElem h, List.map_append, List.map_singleton, flatE_snoc]
theorem bare_fst (l : List Int) : (bare l).map (·.1) = l := by
  unfold bare
  rw [List.map_map]
  exact List.map_id l
theorem bare_slice (l : List Int) : ∀ p ∈ bare l, ∃ A n c, p.2 = .slice A n c := by
  intro p hp
  obtain ⟨x, -, rfl⟩ := List.mem_map.1 hp
  exact ⟨_, _, _, rfl⟩
theorem bare_length (l : List Int) : (bare l).length = l.length := by simp [bare]

theorem RaH.below {w w' : World} {g : Nat} {f c : Int} {v : Value} {B : Nat} (h : RaH w g f c v) (hb : Below B w w') (hB : w.heap.size ≤ B) : RaH w' g f c v :=
  ⟨(hb.block g (Nat.lt_of_lt_of_le (Array.getElem?_eq_some_iff.1 h.1).1 hB)).trans h.1, h.2⟩

set_option maxHeartbeats 2000000 in
theorem AuthnCounts_any (F C : Int) (v : Value) (l : List Int) (w : World) (hv : Ns w v l) : Calls Try.prog 7 #[.agg #[.int .i64 F, .int .i64 C], v] w (Yes3 w) := by
  obtain ⟨i0, hi, hz0, hz1, hz2⟩ := info_parts intinfo
  obtain ⟨i1, hj, hy0, hy1, hy2⟩ := info_parts envinfo
  have hw1 : (w.alloc (.cells #[.int .i64 F, .int .i64 C] 23)).heap[w.heap.size]? = some (.cells #[.int .i64 F, .int .i64 C] 23 (0, 0)) := heap_alloc_new _ _
  have hb1 : Below w.heap.size w (w.alloc (.cells #[.int .i64 F, .int .i64 C] 23)) := (Below.refl _ _).alloc (Nat.le_refl _) _
  have HV := Lib.hid hv
  obtain ⟨A, cc, rfl, -, -, -⟩ := hv.open
  clear hv
  by_cases hlen : 1000 < l.length
  · have hI : (1000 : Int) < (l.length : Int) := by omega
    go_enter Try.func7, Try.ntmps7
    go_wp2
    go_ret
    exact ⟨rfl, hb1⟩
  · have hI : (l.length : Int) ≤ 1000 := by omega
    go_enter Try.func7, Try.ntmps7
    go_upto_region 3 with fail
    generalize w.alloc (.cells #[.int .i64 F, .int .i64 C] 23) = w1 at *
    go_cut [5, 6] from 15 to 24 (fun s5 s6 wx => ∃ g bm g2 v, s5 = .pointer (some ⟨g, 0, none⟩) ∧ s6 = .pointer (some ⟨g2, 0, none⟩) ∧ Both w wx g bm g2 v (clF F) (clC C))
    case first =>
      have hS0 := both_cells hw1 ((Below.refl _ _).drew)
      have hk : ∀ W W', (W.cell? ⟨w.heap.size, 0, none⟩ = some (.int .i64 F) ∧ W.cell? ⟨w.heap.size, 1, none⟩ = some (.int .i64 C)) → Below W.heap.size W W' → (W'.cell? ⟨w.heap.size, 0, none⟩ = some (.int .i64 F) ∧ W'.cell? ⟨w.heap.size, 1, none⟩ = some (.int .i64 C)) :=
        fun W W' h hb => ⟨(hb.cell (cell_lt h.1)).trans h.1, (hb.cell (cell_lt h.2)).trans h.2⟩
      go_region_held3 (fun W => W.cell? ⟨w.heap.size, 0, none⟩ = some (.int .i64 F) ∧ W.cell? ⟨w.heap.size, 1, none⟩ = some (.int .i64 C)) (first | exact hS0 | exact hk _ _ (by assumption) hbA | exact hk _ _ (by assumption) hbB) (first
        | (go_at_call 10; refine (New3_any F C _).mono ?_; rintro e wA ⟨g, bm, rfl, hg, hbm, hA, hbA⟩)
        | (go_at_call 11; refine (rNew_any F C _).mono ?_; rintro e wB ⟨g2, v, rfl, hg2, hD, hbB⟩))
      go_wp2_with fail
      go_meet
      exact ⟨g, bm, g2, v, rfl, rfl, Both.one (hb1.trans ((Below.refl _ _).drew.mono hb1.size)) hg hbm hA hbA hD hbB⟩
    case rest =>
    obtain ⟨g, bm, g2, va, rfl, rfl, hBoth⟩ := hcut
    have HBO := Lib.hid hBoth
    have HVc := Lib.hid (HV.out.below hBoth.below (Nat.le_refl _))
    have hBel := hBoth.below
    clear hBoth hw1 hb1
    generalize clF F = f at *
    generalize clC C = c at *
    go_wp2
    go_loopw [7, 8] (fun mv i wr => ∃ k : Nat, k ≤ l.length ∧ i = .int .i64 k ∧ wr.ownsRow wc.heap.size 40 2 mv k (flatE (bare (l.take k))) ∧ Below wc.heap.size wc wr) (fun _ i _ => l.length - (intOf i).toNat)
    case atStart => exact ⟨0, Nat.zero_le _, rfl, World.ownsRow_nil _ _ _ _, Below.refl _ _⟩
    case round =>
      obtain ⟨k, hk, rfl, hown, hbel⟩ := hrel
      by_cases hlt : k < l.length
      · obtain ⟨A', c', e, -, -, hx⟩ := (HVc.out.below hbel (Nat.le_refl _)).open
        injection e with e e2 e3
        subst e
        clear e2 e3
        obtain ⟨ad, rfl, hcell⟩ := hx k hlt
        clear hx
        have HT := Lib.hid (bare_take l k hlt)
        obtain ⟨As, cs, rfl⟩ := own_slice hown
        have hownB := hown.kept (World.grownBy_alloc wr (.cells #[.int .i64 l[k], .slice none 0 0] 40) none) (by cases h : (Value.slice As k cs).ownBlock <;> simp)
        have hev := Ev.open (show Ev (wr.alloc (.cells #[.int .i64 l[k], .slice none 0 0] 40)) wr.heap.size (.int .i64 l[k]) (.slice none 0 0) from heap_alloc_new _ _)
        go_wp2_with (first
          | (at_builtin; refine wpList_append2 _ rfl (.tmp 31) (.tmp 37) 45 rfl wc.heap.size 40 i1 (.agg #[.int .i64 0, .slice none 0 0]) 32 Try.underlying45 hj hy0 hy1 hy2 rfl _ _ _ rfl hownB wr.heap.size _ _ rfl hev.1 hev.2.1 rfl rfl (by unfold maxLen; omega) (by omega) (by have := hbel.size; simp; omega) ?_; intro v2 w2 hown2 hg2))
        have hB2 : Below wc.heap.size wc w2 := (hbel.alloc hbel.size _).grown hg2 (by have := hbel.size; simp; omega) (fun g hg => (hownB.lt g hg).1)
        have hown3 : w2.ownsRow wc.heap.size 40 2 v2 (k + 1) (flatE (bare (l.take (k + 1)))) := by
          rw [HT.out]
          exact hown2
        clear hg2 hown2 hownB hown hev
        go_roundw
        case rel => exact ⟨k + 1, by omega, by go_num, hown3, hB2⟩
        case measure => simp [intOf]; omega
      · obtain rfl : k = l.length := by omega
        rw [List.take_length] at hown
        have hEs := Es.of_own hown
        obtain ⟨As, cs, rfl⟩ := own_slice hown
        have HES := Lib.hid hEs
        have HVr := Lib.hid (HVc.out.below hbel (Nat.le_refl _))
        clear hown hEs
        go_wp2_with (first
          | (at_builtin; refine wpList_append_rd _ rfl (.tmp 39) (.tmp 40) 50 rfl wr.heap.size 3 i0 (.int .i64 0) 8 Try.underlying50 hi hz0 hz1 hz2 rfl _ _ _ rfl (own_empty _ _ _ _ (Nat.le_refl _) rfl) _ _ rfl (Rd.below HVr.out ((Below.refl wr.heap.size wr).alloc (Nat.le_refl _) _) (Nat.le_refl _)) (ic_one l) (by simp; unfold maxLen; omega) (by simp; omega) (by simp) ?_; intro gv w2 hown2 hg2; have hb2 : Below wr.heap.size wr w2 := ((Below.refl wr.heap.size wr).alloc (Nat.le_refl _) _).grown hg2 (by simp) (by intro k h; injection h with h; simp only at h; omega); have hGv : Ns w2 gv l := Rd.of_own (by simpa using hown2); have hbc2 := hbel.trans (hb2.mono hbel.size); clear hown2 hg2; obtain ⟨Ag, cg, rfl, -, -, -⟩ := hGv.open)
          | (go_at_call 22; refine (auCount_any g bm f c _ l _ (HBO.out.au.1.below hbc2 (Nat.le_refl _)) hGv).mono ?_; rintro e w' ⟨rfl, hww⟩; rw [hww]; clear hww w'))
        have hf := HBO.out.au.1.2.1
        have HGv := Lib.hid hGv
        have HD : ∀ W, Below wr.heap.size wr W → Calls Try.prog 24 #[.pointer (some ⟨g, 0, none⟩), .slice As l.length cs] W fun e w' => e = .returned (.int .i64 (disE f l)) ∧ Below W.heap.size W w' := fun W hb => by
          have := Distinct_any g bm f c _ (bare l) W (HBO.out.au.1.below (hbel.trans (hb.mono hbel.size)) (Nat.le_refl _)) (HES.out.below hb (Nat.le_refl _)) (bare_slice l)
          rwa [bare_fst] at this
        have HRD : ∀ W, Below wr.heap.size wr W → Calls Try.prog 25 #[.pointer (some ⟨g2, 0, none⟩), .slice As l.length cs] W fun e w' => e = .returned (.int .i64 (disE f l)) ∧ Below W.heap.size W w' := fun W hb => by
          have := rDistinct_any g2 f c va _ (bare l) W (HBO.out.dt.head.below (hbel.trans (hb.mono hbel.size)) (Nat.le_refl _)) (HES.out.below hb (Nat.le_refl _)) (by rw [bare_length]; omega)
          rwa [bare_fst] at this
        have HRC : ∀ W, Below wr.heap.size wr W → Calls Try.prog 23 #[.pointer (some ⟨g2, 0, none⟩), .slice A l.length cc] W fun e w' => e = .returned (.int .i64 (cntP f l)) ∧ Below W.heap.size W w' := fun W hb =>
          raCount_any g2 f c va _ l W (HBO.out.dt.head.below (hbel.trans (hb.mono hbel.size)) (Nat.le_refl _)) (HVr.out.below hb (Nat.le_refl _)) (by omega)
        have HDh := Lib.hid HD
        have HRDh := Lib.hid HRD
        have HRCh := Lib.hid HRC
        have HCN := Lib.hid (fun h => disE_cnt hf (l := l) h)
        clear HD HRD HRC hGv
        go_loopw [11] (fun i wq => ∃ k : Nat, k ≤ l.length ∧ i = .int .i64 k ∧ Below w2.heap.size w2 wq) (fun i _ => l.length - (intOf i).toNat)
        case atStart => exact ⟨0, Nat.zero_le _, rfl, Below.refl _ _⟩
        case round =>
          obtain ⟨k, hk2, rfl, hbq⟩ := hrel
          by_cases hlt2 : k < l.length
          · obtain ⟨A', c', e, -, -, hx⟩ := (HGv.out.below hbq (Nat.le_refl _)).open
            injection e with e e2 e3
            subst e
            clear e2 e3
            obtain ⟨adg, rfl, hcell⟩ := hx k hlt2
            clear hx
            obtain ⟨A', c', e, -, -, hx⟩ := (HVr.out.below (hb2.trans (hbq.mono hb2.size)) (Nat.le_refl _)).open
            injection e with e e2 e3
            subst e
            clear e2 e3
            obtain ⟨adl, rfl, hcell2⟩ := hx k hlt2
            clear hx
            go_wp2
            go_quiet (fail)
            go_wp2
            go_roundw
            case rel => exact ⟨k + 1, by omega, by go_num, below_drewN hbq _⟩
            case measure => simp [intOf]; omega
          · obtain rfl : k = l.length := by omega
            have B3 := hb2.trans (hbq.mono hb2.size)
            have tokD : True := trivial
            by_cases hd : disE f l = 0
            · have hnI : ((cntP f l : Int) == (l.length : Int)) = true := by rw [HCN.out hd]; simp
              rw [hd] at HDh HRDh
              clear hd
              generalize (cntP f l : Int) = m at *
              go_wp2_with (first
                | (go_at_call 23; refine (HRCh.out _ B3).mono ?_; rintro e w4 ⟨rfl, hb4⟩; have B4 := B3.trans (hb4.mono B3.size))
                | (go_at_call 24; have _t := tokD; clear tokD; refine (HDh.out _ B4).mono ?_; rintro e w5 ⟨rfl, hb5⟩; have B5 := B4.trans (hb5.mono B4.size); have tokE : True := trivial)
                | (go_at_call 25; refine (HRDh.out _ B5).mono ?_; rintro e w6 ⟨rfl, hb6⟩; have B6 := B5.trans (hb6.mono B5.size))
                | (go_at_call 24; have _t := tokE; clear tokE; refine (HDh.out _ B6).mono ?_; rintro e w7 ⟨rfl, hb7⟩; have B7 := B6.trans (hb7.mono B6.size))
                | (go_at_call 14; refine (awake3_any _).mono ?_; rintro e w8 ⟨rfl, hb8⟩))
              go_ret
              have h2 := hBel.trans ((hbel.trans (B7.mono hbel.size)).mono hBel.size)
              exact ⟨rfl, h2.trans (hb8.mono h2.size)⟩
            · have hd1 : (disE f l != 0) = true := by simpa using hd
              clear hd
              generalize disE f l = d at *
              generalize (cntP f l : Int) = m at *
              go_wp2_with (first
                | (go_at_call 23; refine (HRCh.out _ B3).mono ?_; rintro e w4 ⟨rfl, hb4⟩; have B4 := B3.trans (hb4.mono B3.size))
                | (go_at_call 24; have _t := tokD; clear tokD; refine (HDh.out _ B4).mono ?_; rintro e w5 ⟨rfl, hb5⟩; have B5 := B4.trans (hb5.mono B4.size); have tokE : True := trivial)
                | (go_at_call 25; refine (HRDh.out _ B5).mono ?_; rintro e w6 ⟨rfl, hb6⟩; have B6 := B5.trans (hb6.mono B5.size))
                | (go_at_call 24; have _t := tokE; clear tokE; refine (HDh.out _ B6).mono ?_; rintro e w7 ⟨rfl, hb7⟩; have B7 := B6.trans (hb7.mono B6.size))
                | (go_at_call 14; refine (awake3_any _).mono ?_; rintro e w8 ⟨rfl, hb8⟩))
              go_ret
              have h2 := hBel.trans ((hbel.trans (B7.mono hbel.size)).mono hBel.size)
              exact ⟨rfl, h2.trans (hb8.mono h2.size)⟩
end Go.Proofs.Ytlbbehhjehpefaa
