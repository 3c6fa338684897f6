/- Layer 4: ValueCodes. -/
import Derived.Test.YtlnpolepgdoloaaVBeside
import Derived.Test.YtlnpolepgdoloaaVPut
import Derived.Test.YtlnpolepgdoloaaVTwo
import Derived.Test.YtlnpolepgdoloaaVArgs
namespace Go.Proofs.Ytlnpolepgdoloaa
open Go.RowKit
set_option linter.unusedVariables false
set_option linter.unusedSimpArgs false
set_option maxRecDepth 20000

/-- a box of a value, a row of it -/
def W1s (w : World) (v : Vl) : World := (w.alloc (bxO v)).alloc (.cells #[.int .i64 v.k, .int .i64 v.i, .bool v.b, .string v.s, .float .f64 v.n] 24)
theorem W1s_facts (w : World) (v : Vl) : Bx (W1s w v) w.heap.size v ∧ Below w.heap.size w (W1s w v) :=
  ⟨(Bx.new w v).alloc _, ((Below.refl _ _).alloc (Nat.le_refl _) _).alloc (by simp) _⟩
theorem short_one (w : World) (v : Vl) : Calls Try.prog 12 #[.slice (some ⟨w.heap.size + 1, 0, none⟩) 1 1] (W1s w v) (VGv (.bool (shortS [v.s])) (W1s w v)) := by
  have hh := heap_alloc_new (w.alloc (bxO v)) (.cells #[.int .i64 v.k, .int .i64 v.i, .bool v.b, .string v.s, .float .f64 v.n] 24)
  have e : (w.alloc (bxO v)).heap.size = w.heap.size + 1 := by simp
  rw [e] at hh
  refine short_any _ _ _ (Txs_row (W1s w v) (w.heap.size + 1) _ [v] (by simp) hh (fun k hk => ?_) 1 rfl)
  match k, hk with
  | 0, _ => rfl
theorem short_size {v : Vl} (h : shortS [v.s] = true) : v.s.data.toList.length ≤ 100000 := by
  have h1 := List.all_eq_true.1 h v.s (by simp)
  have h2 : v.s.size ≤ 1000 := of_decide_eq_true h1
  have h3 : v.s.data.toList.length = v.s.size := Array.length_toList
  omega
/-- the row 9, made anew -/
theorem nine_bs (W : World) : Bs (W.alloc (.cells #[.int .u8 9] 5)) (.slice (some ⟨W.heap.size, 0, none⟩) 1 1) [9] := by
  have h := heap_alloc_new W (.cells #[.int .u8 9] 5)
  refine ⟨some ⟨W.heap.size, 0, none⟩, 1, rfl, Nat.le_refl _, by unfold maxLen; omega, (by intro h; cases h), fun _ => ⟨_, rfl, by simp, fun j u hu => ?_⟩⟩
  match j, hu with
  | 0, hu =>
    rw [Addr.add_zero']
    injection hu with hu
    subst hu
    exact (cell_of_row _ _ 0 _ _ (0, 0) h).trans rfl

theorem nine_one (W : World) (o : Obj) : Bs ((W.alloc o).alloc (.cells #[.int .u8 9] 5)) (.slice (some ⟨W.heap.size + 1, 0, none⟩) 1 1) [9] := by
  have h := nine_bs (W.alloc o)
  have e : (W.alloc o).heap.size = W.heap.size + 1 := by simp
  rwa [e] at h
theorem Bs.alloc {W : World} {v : Value} {l : List UInt8} (h : Bs W v l) (o : Obj) : Bs (W.alloc o) v l := Bs.below h ((Below.refl _ _).alloc (Nat.le_refl _) o) (Nat.le_refl _)

set_option maxHeartbeats 8000000 in
theorem ValueCodes_any (v : Vl) (b : Value) (l : List UInt8) (w : World) (hv : okV v) (hb : Bs w b l) : Calls Try.prog 7 #[agV v, b] w (VMk (.bool true) w) := by
  obtain ⟨f1, f2⟩ := W1s_facts w v
  have hs := short_one w v
  have F1 := Lib.hid f1
  have F2 := Lib.hid f2
  clear f1 f2
  obtain ⟨A, c, rfl, hlc, hmc, -, hbx⟩ := hb.open
  have hold : l ≠ [] → ∀ k, (Value.slice A l.length c).ownBlock = some k → k < w.heap.size := by
    intro hl k hk
    obtain ⟨ad, rfl, hlt, -⟩ := hbx hl
    injection hk with hk
    rw [← hk]
    exact hlt
  clear hbx
  have HB := Lib.hid hb
  have HO := Lib.hid hold
  clear hb hold hlc hmc
  rcases hsh : shortS [v.s] with _ | _
  · rw [hsh] at hs
    have HS := Lib.hid hs
    clear hs hsh
    go_enter Try.func7, Try.ntmps7
    go_wp2_with fail
    refine HS.out.mono ?_
    rintro e w' ⟨rfl, rfl⟩
    go_wp2
    go_ret
    exact ⟨rfl, F2.out⟩
  have hsz := short_size hsh
  rw [hsh] at hs
  have HS := Lib.hid hs
  clear hs hsh
  by_cases hl : 1000 < l.length
  · have hl' : (1000 : Int) < (l.length : Int) := by omega
    clear hl
    go_enter Try.func7, Try.ntmps7
    go_wp2_with fail
    refine HS.out.mono ?_
    rintro e w' ⟨rfl, rfl⟩
    generalize W1s w v = wc at *
    go_wp2
    go_ret
    exact ⟨rfl, F2.out⟩
  have hl' : (l.length : Int) ≤ 1000 := by omega
  have hln : l.length ≤ 1000 := by omega
  have qn : ∀ W, Below w.heap.size w W → Calls Try.prog 32 #[.slice A l.length c] W fun e w' => ∃ g, e = .returned (.pointer (some ⟨g, 0, none⟩)) ∧ W.heap.size ≤ g ∧ RdR w' g l 0 ∧ Below W.heap.size W w' :=
    fun W hw => New_any _ l W (Rd.below HB.out hw (Nat.le_refl _)) (by omega)
  have qg : ∀ g W, RdR W g l 0 → Calls Try.prog 33 #[.pointer (some ⟨g, 0, none⟩)] W (GetP g (getV l 0) (getE l 0) (readF l 0).2.1 (readF l 0).2.2 W) :=
    fun g W h => Get_any g l 0 W h (by omega)
  have qr : ∀ g W, RfS W g l 0 → Calls Try.prog 34 #[.pointer (some ⟨g, 0, none⟩)] W (GetR g (getV l 0) (getE l 0) (readF l 0).2.1 (readF l 0).2.2 W) :=
    fun g W h => rGet_any g l 0 W h
  have e1 : ∀ W y, Bs W y [9] → Calls Try.prog 36 #[y, agV v] W (fun e w' => ∃ v', e = .returned v' ∧ Bs w' v' ([9] ++ valB v) ∧ Below W.heap.size W w') := fun W y hy => (Put_val v y [9] W hy (by decide) hsz hv.2.2).mono fun e w' h => h.bs
  have e2 : ∀ W y, Bs W y [9] → Calls Try.prog 37 #[y, agV v] W (fun e w' => ∃ v', e = .returned v' ∧ Bs w' v' ([9] ++ valB v) ∧ Below W.heap.size W w') := fun W y hy => (rPut_val v y [9] W hy (by decide) hsz hv.2.2).mono fun e w' h => h.bs
  have e3 : ∀ W (x : Vl), Calls Try.prog 21 #[agV x, agV x] W (VMk (.bool true) W) := fun W x => by
    have h := rSame_val x x W
    rwa [show sameV x x = true by unfold sameV; simp] at h
  have e4 : ∀ W x y m, Bs W x m → Bs W y m → Calls Try.prog 35 #[x, y] W (VMk (.bool true) W) := fun W x y m hx hy => by
    have h := Same_any x y m m W hx hy
    rw [beq_self_eq_true] at h
    exact h.mono fun e w' h => ⟨h.1, h.2 ▸ Below.refl _ _⟩
  generalize getV l 0 = x at *
  generalize hxe : getE l 0 = er at *
  generalize (readF l 0).2.1 = r2 at *
  generalize (readF l 0).2.2 = er2 at *
  generalize [9] ++ valB v = out at *
  have QN := Lib.hid qn
  have QG := Lib.hid qg
  have QR := Lib.hid qr
  have E1 := Lib.hid e1
  have E2 := Lib.hid e2
  have E3 := Lib.hid e3
  have E4 := Lib.hid e4
  clear qn qg qr e1 e2 e3 e4 hl hsz hxe hv
  have hsf := fun (w : World) (a : Addr) (m : Mode) (b : Nat) => run_store Try.prog w a (.float .f64 b) m rfl
  go_enter Try.func7, Try.ntmps7
  go_wp2_with fail
  refine HS.out.mono ?_
  rintro e w' ⟨rfl, rfl⟩
  generalize W1s w v = wc at *
  clear HS
  go_wp2_with fail
  refine (QN.out _ F2.out).mono ?_
  rintro e wd ⟨g, rfl, hgc, hrg, hbd⟩
  have hRO : Below wd.heap.size wd (wd.alloc (.cells #[.slice A l.length c, .int .i64 0, .int .i64 0] 47)) := (Below.refl _ _).alloc (Nat.le_refl _) _
  have B1 := F2.out.trans (hbd.mono F2.out.size)
  have HR1 := Lib.hid (hrg.below hRO)
  have HT1 := Lib.hid (RfS.mkq wd _ l (Bs.bq (Rd.below HB.out B1 (Nat.le_refl _)) (fun hl k hk => Nat.lt_of_lt_of_le (HO.out hl k hk) B1.size)) (by omega) wd.heap.size rfl)
  have HX1 := Lib.hid ((F1.out.below hbd).below hRO)
  have HL1 := Lib.hid (B1.trans (hRO.mono B1.size))
  have hgw : w.heap.size ≤ g := Nat.le_trans F2.out.size hgc
  have hgb : w.heap.size < wc.heap.size := World.block_lt_of_cell? wc _ F1.out.1
  have hbg : w.heap.size ≠ g := by omega
  have hgd : g < wd.heap.size := hrg.lt
  have hbs : w.heap.size ≠ wd.heap.size := by omega
  have hws : w.heap.size ≤ wd.heap.size := by omega
  clear hrg hbd hRO B1 F1 F2 hgc hgb
  go_upto_region 4 with fail
  generalize wd.alloc (.cells #[.slice A l.length c, .int .i64 0, .int .i64 0] 47) = we at *
  generalize wd.heap.size = s at *
  go_wp2_with fail
  refine (QG.out g we HR1.out).mono ?_
  rintro e wf ⟨rfl, hr2, ho⟩
  have HT2 := Lib.hid (HT1.out.offP HR1.out ho (by omega))
  have HX2 := Lib.hid (HX1.out.only ho hbg)
  have HL2 := Lib.hid (HL1.out.trans (ho.to_below HL1.out.size hgw))
  have hlx : Below wf.heap.size wf (wf.alloc (bxO x)) := (Below.refl _ _).alloc (Nat.le_refl _) _
  have HT3 := Lib.hid (HT2.out.below hlx)
  have HX3 := Lib.hid (HX2.out.below hlx)
  have HL3 := Lib.hid (HL2.out.trans (hlx.mono HL2.out.size))
  have HR3 := Lib.hid (hr2.below hlx)
  have HY3 := Lib.hid (Bx.new wf x)
  have hbx : w.heap.size ≤ wf.heap.size := HL2.out.size
  have hsx : s < wf.heap.size := HT2.out.lt
  have hsy : wf.heap.size ≠ s := by omega
  clear hr2 ho hlx HT2 HX2 HL2 HT1 HX1 HL1 HR1
  go_upto_region 5 with fail
  generalize wf.alloc (.cells #[.int .i64 x.k, .int .i64 x.i, .bool x.b, .string x.s, .float .f64 x.n] 24) = wg at *
  generalize wf.heap.size = bx at *
  go_wp2_with fail
  refine (QR.out s wg HT3.out).mono ?_
  rintro e wh ⟨rfl, ht2, ho⟩
  have HR4 := Lib.hid (HR3.out.offR HT3.out ho (by omega))
  have HX4 := Lib.hid (HX3.out.only ho hbs)
  have HY4 := Lib.hid (HY3.out.only ho hsy)
  have HL4 := Lib.hid (HL3.out.trans (ho.to_below HL3.out.size hws))
  have hlx : Below wh.heap.size wh (wh.alloc (bxO x)) := (Below.refl _ _).alloc (Nat.le_refl _) _
  have HT5 := Lib.hid (ht2.below hlx)
  have HR5 := Lib.hid (HR4.out.below hlx)
  have HX5 := Lib.hid (HX4.out.below hlx)
  have HY5 := Lib.hid (HY4.out.below hlx)
  have HL5 := Lib.hid (HL4.out.trans (hlx.mono HL4.out.size))
  have HZ5 := Lib.hid (Bx.new wh x)
  clear ht2 ho hlx HR3 HX3 HY3 HL3 HR4 HX4 HY4 HL4 HT3
  go_upto_region 6 with fail
  generalize wh.alloc (.cells #[.int .i64 x.k, .int .i64 x.i, .bool x.b, .string x.s, .float .f64 x.n] 24) = wi at *
  generalize wh.heap.size = bz at *
  have q1 : ∀ W, Below wi.heap.size wi W → Calls Try.prog 38 #[.pointer (some ⟨g, 0, none⟩)] W (VMk (.int .i64 r2.length) W) :=
    fun W hw => (Left_any g r2 er2 W (HR5.out.below hw)).mono fun e w' h => ⟨h.1, h.2 ▸ Below.refl _ _⟩
  have q2 : ∀ W, Below wi.heap.size wi W → Calls Try.prog 39 #[.pointer (some ⟨s, 0, none⟩)] W (VMk (.int .i64 r2.length) W) :=
    fun W hw => (rfLeft_any s r2 er2 W (HT5.out.below hw)).mono fun e w' h => ⟨h.1, by obtain ⟨n, hn⟩ := h.2; rw [hn]; exact below_drewN (Below.refl _ _) n⟩
  have Q1 := Lib.hid q1
  have Q2 := Lib.hid q2
  have hS0 : Below wi.heap.size wi wi.drew ∧ (wi.cell? ⟨w.heap.size, 0, none⟩ = some (.int .i64 v.k) ∧ wi.cell? ⟨w.heap.size, 1, none⟩ = some (.int .i64 v.i) ∧ wi.cell? ⟨w.heap.size, 2, none⟩ = some (.bool v.b) ∧ wi.cell? ⟨w.heap.size, 3, none⟩ = some (.string v.s) ∧ wi.cell? ⟨w.heap.size, 4, none⟩ = some (.float .f64 v.n)) ∧ (wi.cell? ⟨bx, 0, none⟩ = some (.int .i64 x.k) ∧ wi.cell? ⟨bx, 1, none⟩ = some (.int .i64 x.i) ∧ wi.cell? ⟨bx, 2, none⟩ = some (.bool x.b) ∧ wi.cell? ⟨bx, 3, none⟩ = some (.string x.s) ∧ wi.cell? ⟨bx, 4, none⟩ = some (.float .f64 x.n)) ∧ (wi.cell? ⟨bz, 0, none⟩ = some (.int .i64 x.k) ∧ wi.cell? ⟨bz, 1, none⟩ = some (.int .i64 x.i) ∧ wi.cell? ⟨bz, 2, none⟩ = some (.bool x.b) ∧ wi.cell? ⟨bz, 3, none⟩ = some (.string x.s) ∧ wi.cell? ⟨bz, 4, none⟩ = some (.float .f64 x.n)) := ⟨(Below.refl _ _).drew, HX5.out, HY5.out, HZ5.out⟩
  have hk : ∀ W W' : World, (Below wi.heap.size wi W ∧ Bx W w.heap.size v ∧ Bx W bx x ∧ Bx W bz x) → Below W.heap.size W W' → (Below wi.heap.size wi W' ∧ Bx W' w.heap.size v ∧ Bx W' bx x ∧ Bx W' bz x) := fun W W' h hb => ⟨h.1.trans (hb.mono h.1.size), h.2.1.below hb, h.2.2.1.below hb, h.2.2.2.below hb⟩
  have HK := Lib.hid hk
  have hka : ∀ (W : World) (o : Obj), (Below wi.heap.size wi W ∧ Bx W w.heap.size v ∧ Bx W bx x ∧ Bx W bz x) → (Below wi.heap.size wi (W.alloc o) ∧ Bx (W.alloc o) w.heap.size v ∧ Bx (W.alloc o) bx x ∧ Bx (W.alloc o) bz x) := fun W o h => hk W _ h ((Below.refl _ _).alloc (Nat.le_refl _) o)
  have HKA := Lib.hid hka
  clear hk hka q1 q2 HX5 HY5 HZ5 HT5 HR5 QN QG QR HB HO
  have hee : (er == er) = true := beq_self_eq_true er
  have hll : ((r2.length : Int) == (r2.length : Int)) = true := beq_self_eq_true _
  by_cases h0 : er = 0
  · subst h0
    refine wp_region_held_drew (S := (fun W => Below wi.heap.size wi W ∧ (W.cell? ⟨w.heap.size, 0, none⟩ = some (.int .i64 v.k) ∧ W.cell? ⟨w.heap.size, 1, none⟩ = some (.int .i64 v.i) ∧ W.cell? ⟨w.heap.size, 2, none⟩ = some (.bool v.b) ∧ W.cell? ⟨w.heap.size, 3, none⟩ = some (.string v.s) ∧ W.cell? ⟨w.heap.size, 4, none⟩ = some (.float .f64 v.n)) ∧ (W.cell? ⟨bx, 0, none⟩ = some (.int .i64 x.k) ∧ W.cell? ⟨bx, 1, none⟩ = some (.int .i64 x.i) ∧ W.cell? ⟨bx, 2, none⟩ = some (.bool x.b) ∧ W.cell? ⟨bx, 3, none⟩ = some (.string x.s) ∧ W.cell? ⟨bx, 4, none⟩ = some (.float .f64 x.n)) ∧ (W.cell? ⟨bz, 0, none⟩ = some (.int .i64 x.k) ∧ W.cell? ⟨bz, 1, none⟩ = some (.int .i64 x.i) ∧ W.cell? ⟨bz, 2, none⟩ = some (.bool x.b) ∧ W.cell? ⟨bz, 3, none⟩ = some (.string x.s) ∧ W.cell? ⟨bz, 4, none⟩ = some (.float .f64 x.n)))) (by kernel_rfl) (hS0) (fun hHeld => ?_)
    refine wpAnyH_take (i := 1) (oi := ?oi92) (v := ?v92) ?hi92 (by kernel_rfl) (by kernel_rfl) (by kernel_rfl) ?hQ92 (Or.inl ⟨?hw92, ?hy92⟩) (by assumption) ?rest92
    case hi92 => (simp only [List.getElem?_toArray, List.getElem?_cons_succ, List.getElem?_cons_zero]; rfl)
    case hQ92 => exact fun _ _ _ h => h
    case hw92 => rfl
    case hy92 => (intro w hSw; (try dsimp only at hSw); go_simp; try with_reducible rfl)
    (try simp only [Act.put, List.setIfInBounds_toArray, List.set_cons_zero, List.set_cons_succ])
    refine wpAnyH_take (i := 4) (oi := ?oi93) (v := ?v93) ?hi93 (by kernel_rfl) (by kernel_rfl) (by kernel_rfl) ?hQ93 (Or.inl ⟨?hw93, ?hy93⟩) (by assumption) ?rest93
    case hi93 => (simp only [List.getElem?_toArray, List.getElem?_cons_succ, List.getElem?_cons_zero]; rfl)
    case hQ93 => exact fun _ _ _ h => h
    case hw93 => rfl
    case hy93 => (intro w hSw; (try dsimp only at hSw); go_simp; try with_reducible rfl)
    (try simp only [Act.put, List.setIfInBounds_toArray, List.set_cons_zero, List.set_cons_succ])
    refine wpAnyH_ready (rs := [0, 3]) (by kernel_rfl) (by simp) ?_
    refine AllReadyH.cons (o := ?o94) ?ho94 (fun K hK => ?st94) (AllReadyH.cons (o := ?o95) ?ho95 (fun K hK => ?st95) AllReadyH.nil)
    case ho94 => (simp only [List.getElem?_toArray, List.getElem?_cons_succ, List.getElem?_cons_zero]; rfl)
    case ho95 => (simp only [List.getElem?_toArray, List.getElem?_cons_succ, List.getElem?_cons_zero]; rfl)
    · go_simp
      refine hK.out _ _ ?_ (fun hHeld => ?_)
      · (try dsimp only); (first | exact HKA.out _ _ (by assumption) | exact HK.out _ _ (by assumption) hbA | exact HK.out _ _ (by assumption) hbB | exact HK.out _ _ (by assumption) hbC | exact HK.out _ _ (by assumption) hbD | exact HK.out _ _ (by assumption) hbE | exact HK.out _ _ (by assumption) hbF | exact HK.out _ _ (by assumption) hbG)
      clear hK K
      (try simp only [Act.put, List.setIfInBounds_toArray, List.set_cons_zero, List.set_cons_succ])
      refine wpAnyH_ready (rs := [2, 3]) (by kernel_rfl) (by simp) ?_
      refine AllReadyH.cons (o := ?o96) ?ho96 (fun K hK => ?st96) (AllReadyH.cons (o := ?o97) ?ho97 (fun K hK => ?st97) AllReadyH.nil)
      case ho96 => (simp only [List.getElem?_toArray, List.getElem?_cons_succ, List.getElem?_cons_zero]; rfl)
      case ho97 => (simp only [List.getElem?_toArray, List.getElem?_cons_succ, List.getElem?_cons_zero]; rfl)
      · go_simp
        refine (E1.out _ _ (by first | exact nine_bs _ | exact nine_one _ _ | (refine Bs.alloc ?_ _; exact nine_bs _))).mono ?_; rintro e wA ⟨vA, rfl, hsA, hbA⟩
        refine hK.out _ _ ?_ (fun hHeld => ?_)
        · (try dsimp only); (first | exact HKA.out _ _ (by assumption) | exact HK.out _ _ (by assumption) hbA | exact HK.out _ _ (by assumption) hbB | exact HK.out _ _ (by assumption) hbC | exact HK.out _ _ (by assumption) hbD | exact HK.out _ _ (by assumption) hbE | exact HK.out _ _ (by assumption) hbF | exact HK.out _ _ (by assumption) hbG)
        clear hK K
        (try simp only [Act.put, List.setIfInBounds_toArray, List.set_cons_zero, List.set_cons_succ])
        refine wpAnyH_ready (rs := [3]) (by kernel_rfl) (by simp) ?_
        refine AllReadyH.cons (o := ?o98) ?ho98 (fun K hK => ?st98) AllReadyH.nil
        case ho98 => (simp only [List.getElem?_toArray, List.getElem?_cons_succ, List.getElem?_cons_zero]; rfl)
        go_simp
        refine hK.out _ _ ?_ (fun hHeld => ?_)
        · (try dsimp only); (first | exact HKA.out _ _ (by assumption) | exact HK.out _ _ (by assumption) hbA | exact HK.out _ _ (by assumption) hbB | exact HK.out _ _ (by assumption) hbC | exact HK.out _ _ (by assumption) hbD | exact HK.out _ _ (by assumption) hbE | exact HK.out _ _ (by assumption) hbF | exact HK.out _ _ (by assumption) hbG)
        clear hK K
        (try simp only [Act.put, List.setIfInBounds_toArray, List.set_cons_zero, List.set_cons_succ])
        refine wpAnyH_ready (rs := [5]) (by kernel_rfl) (by simp) ?_
        refine AllReadyH.cons (o := ?o99) ?ho99 (fun K hK => ?st99) AllReadyH.nil
        case ho99 => (simp only [List.getElem?_toArray, List.getElem?_cons_succ, List.getElem?_cons_zero]; rfl)
        go_simp
        refine (E2.out _ _ (by first | exact nine_bs _ | (refine Bs.below ?_ hbA (Nat.le_refl _); first | exact nine_bs _ | exact nine_one _ _ | (refine Bs.alloc ?_ _; exact nine_bs _)))).mono ?_; rintro e wB ⟨vB, rfl, hsB, hbB⟩
        refine hK.out _ _ ?_ (fun hHeld => ?_)
        · (try dsimp only); (first | exact HKA.out _ _ (by assumption) | exact HK.out _ _ (by assumption) hbA | exact HK.out _ _ (by assumption) hbB | exact HK.out _ _ (by assumption) hbC | exact HK.out _ _ (by assumption) hbD | exact HK.out _ _ (by assumption) hbE | exact HK.out _ _ (by assumption) hbF | exact HK.out _ _ (by assumption) hbG)
        clear hK K
        (try simp only [Act.put, List.setIfInBounds_toArray, List.set_cons_zero, List.set_cons_succ])
        refine wpAnyH_ready (rs := [6]) (by kernel_rfl) (by simp) ?_
        refine AllReadyH.cons (o := ?o100) ?ho100 (fun K hK => ?st100) AllReadyH.nil
        case ho100 => (simp only [List.getElem?_toArray, List.getElem?_cons_succ, List.getElem?_cons_zero]; rfl)
        go_simp
        refine (E4.out _ _ _ out (by first | exact hsA.below hbB (Nat.le_refl _) | exact (hsA.alloc _).below hbB (Nat.le_refl _)) hsB).mono ?_; rintro e wC ⟨rfl, hbC⟩
        refine hK.out _ _ ?_ (fun hHeld => ?_)
        · (try dsimp only); (first | exact HKA.out _ _ (by assumption) | exact HK.out _ _ (by assumption) hbA | exact HK.out _ _ (by assumption) hbB | exact HK.out _ _ (by assumption) hbC | exact HK.out _ _ (by assumption) hbD | exact HK.out _ _ (by assumption) hbE | exact HK.out _ _ (by assumption) hbF | exact HK.out _ _ (by assumption) hbG)
        clear hK K
        (try simp only [Act.put, List.setIfInBounds_toArray, List.set_cons_zero, List.set_cons_succ])
        refine wpAnyH_take (i := 7) (oi := ?oi101) (v := ?v101) ?hi101 (by kernel_rfl) (by kernel_rfl) (by kernel_rfl) ?hQ101 (Or.inl ⟨?hw101, ?hy101⟩) (by assumption) ?rest101
        case hi101 => (simp only [List.getElem?_toArray, List.getElem?_cons_succ, List.getElem?_cons_zero]; rfl)
        case hQ101 => exact fun _ _ _ h => h
        case hw101 => rfl
        case hy101 => (intro w hSw; (try dsimp only at hSw); go_simp; try with_reducible rfl)
        (try simp only [Act.put, List.setIfInBounds_toArray, List.set_cons_zero, List.set_cons_succ])
        refine wpAnyH_take (i := 8) (oi := ?oi102) (v := ?v102) ?hi102 (by kernel_rfl) (by kernel_rfl) (by kernel_rfl) ?hQ102 (Or.inl ⟨?hw102, ?hy102⟩) (by assumption) ?rest102
        case hi102 => (simp only [List.getElem?_toArray, List.getElem?_cons_succ, List.getElem?_cons_zero]; rfl)
        case hQ102 => exact fun _ _ _ h => h
        case hw102 => rfl
        case hy102 => (intro w hSw; (try dsimp only at hSw); go_simp; try with_reducible rfl)
        (try simp only [Act.put, List.setIfInBounds_toArray, List.set_cons_zero, List.set_cons_succ])
        refine wpAnyH_take (i := 9) (oi := ?oi103) (v := ?v103) ?hi103 (by kernel_rfl) (by kernel_rfl) (by kernel_rfl) ?hQ103 (Or.inl ⟨?hw103, ?hy103⟩) (by assumption) ?rest103
        case hi103 => (simp only [List.getElem?_toArray, List.getElem?_cons_succ, List.getElem?_cons_zero]; rfl)
        case hQ103 => exact fun _ _ _ h => h
        case hw103 => rfl
        case hy103 => (intro w hSw; (try dsimp only at hSw); go_simp; try with_reducible rfl)
        (try simp only [Act.put, List.setIfInBounds_toArray, List.set_cons_zero, List.set_cons_succ])
        refine wpAnyH_ready (rs := [10]) (by kernel_rfl) (by simp) ?_
        refine AllReadyH.cons (o := ?o104) ?ho104 (fun K hK => ?st104) AllReadyH.nil
        case ho104 => (simp only [List.getElem?_toArray, List.getElem?_cons_succ, List.getElem?_cons_zero]; rfl)
        go_simp
        refine (E3.out _ x).mono ?_; rintro e wD ⟨rfl, hbD⟩
        refine hK.out _ _ ?_ (fun hHeld => ?_)
        · (try dsimp only); (first | exact HKA.out _ _ (by assumption) | exact HK.out _ _ (by assumption) hbA | exact HK.out _ _ (by assumption) hbB | exact HK.out _ _ (by assumption) hbC | exact HK.out _ _ (by assumption) hbD | exact HK.out _ _ (by assumption) hbE | exact HK.out _ _ (by assumption) hbF | exact HK.out _ _ (by assumption) hbG)
        clear hK K
        (try simp only [Act.put, List.setIfInBounds_toArray, List.set_cons_zero, List.set_cons_succ])
        refine wpAnyH_take (i := 11) (oi := ?oi105) (v := ?v105) ?hi105 (by kernel_rfl) (by kernel_rfl) (by kernel_rfl) ?hQ105 (Or.inl ⟨?hw105, ?hy105⟩) (by assumption) ?rest105
        case hi105 => (simp only [List.getElem?_toArray, List.getElem?_cons_succ, List.getElem?_cons_zero]; rfl)
        case hQ105 => exact fun _ _ _ h => h
        case hw105 => rfl
        case hy105 => (intro w hSw; (try dsimp only at hSw); go_simp; try with_reducible rfl)
        (try simp only [Act.put, List.setIfInBounds_toArray, List.set_cons_zero, List.set_cons_succ])
        refine wpAnyH_take (i := 12) (oi := ?oi106) (v := ?v106) ?hi106 (by kernel_rfl) (by kernel_rfl) (by kernel_rfl) ?hQ106 (Or.inl ⟨?hw106, ?hy106⟩) (by assumption) ?rest106
        case hi106 => (simp only [List.getElem?_toArray, List.getElem?_cons_succ, List.getElem?_cons_zero]; rfl)
        case hQ106 => exact fun _ _ _ h => h
        case hw106 => rfl
        case hy106 => (intro w hSw; (try dsimp only at hSw); go_simp; try with_reducible rfl)
        (try simp only [Act.put, List.setIfInBounds_toArray, List.set_cons_zero, List.set_cons_succ])
        refine wpAnyH_take (i := 13) (oi := ?oi107) (v := ?v107) ?hi107 (by kernel_rfl) (by kernel_rfl) (by kernel_rfl) ?hQ107 (Or.inl ⟨?hw107, ?hy107⟩) (by assumption) ?rest107
        case hi107 => (simp only [List.getElem?_toArray, List.getElem?_cons_succ, List.getElem?_cons_zero]; rfl)
        case hQ107 => exact fun _ _ _ h => h
        case hw107 => rfl
        case hy107 => (intro w hSw; (try dsimp only at hSw); go_simp; try with_reducible rfl)
        (try simp only [Act.put, List.setIfInBounds_toArray, List.set_cons_zero, List.set_cons_succ])
        refine wpAnyH_take (i := 14) (oi := ?oi108) (v := ?v108) ?hi108 (by kernel_rfl) (by kernel_rfl) (by kernel_rfl) ?hQ108 (Or.inl ⟨?hw108, ?hy108⟩) (by assumption) ?rest108
        case hi108 => (simp only [List.getElem?_toArray, List.getElem?_cons_succ, List.getElem?_cons_zero]; rfl)
        case hQ108 => exact fun _ _ _ h => h
        case hw108 => rfl
        case hy108 => (intro w hSw; (try dsimp only at hSw); go_simp; try with_reducible rfl)
        (try simp only [Act.put, List.setIfInBounds_toArray, List.set_cons_zero, List.set_cons_succ])
        refine wpAnyH_take (i := 15) (oi := ?oi109) (v := ?v109) ?hi109 (by kernel_rfl) (by kernel_rfl) (by kernel_rfl) ?hQ109 (Or.inl ⟨?hw109, ?hy109⟩) (by assumption) ?rest109
        case hi109 => (simp only [List.getElem?_toArray, List.getElem?_cons_succ, List.getElem?_cons_zero]; rfl)
        case hQ109 => exact fun _ _ _ h => h
        case hw109 => rfl
        case hy109 => (intro w hSw; (try dsimp only at hSw); go_simp; try with_reducible rfl)
        (try simp only [Act.put, List.setIfInBounds_toArray, List.set_cons_zero, List.set_cons_succ])
        refine wpAnyH_take (i := 16) (oi := ?oi110) (v := ?v110) ?hi110 (by kernel_rfl) (by kernel_rfl) (by kernel_rfl) ?hQ110 (Or.inl ⟨?hw110, ?hy110⟩) (by assumption) ?rest110
        case hi110 => (simp only [List.getElem?_toArray, List.getElem?_cons_succ, List.getElem?_cons_zero]; rfl)
        case hQ110 => exact fun _ _ _ h => h
        case hw110 => rfl
        case hy110 => (intro w hSw; (try dsimp only at hSw); go_simp; try with_reducible rfl)
        (try simp only [Act.put, List.setIfInBounds_toArray, List.set_cons_zero, List.set_cons_succ])
        refine wpAnyH_take (i := 17) (oi := ?oi111) (v := ?v111) ?hi111 (by kernel_rfl) (by kernel_rfl) (by kernel_rfl) ?hQ111 (Or.inl ⟨?hw111, ?hy111⟩) (by assumption) ?rest111
        case hi111 => (simp only [List.getElem?_toArray, List.getElem?_cons_succ, List.getElem?_cons_zero]; rfl)
        case hQ111 => exact fun _ _ _ h => h
        case hw111 => rfl
        case hy111 => (intro w hSw; (try dsimp only at hSw); go_simp; try with_reducible rfl)
        (try simp only [Act.put, List.setIfInBounds_toArray, List.set_cons_zero, List.set_cons_succ])
        refine wpAnyH_take (i := 18) (oi := ?oi112) (v := ?v112) ?hi112 (by kernel_rfl) (by kernel_rfl) (by kernel_rfl) ?hQ112 (Or.inl ⟨?hw112, ?hy112⟩) (by assumption) ?rest112
        case hi112 => (simp only [List.getElem?_toArray, List.getElem?_cons_succ, List.getElem?_cons_zero]; rfl)
        case hQ112 => exact fun _ _ _ h => h
        case hw112 => rfl
        case hy112 => (intro w hSw; (try dsimp only at hSw); go_simp; try with_reducible rfl)
        (try simp only [Act.put, List.setIfInBounds_toArray, List.set_cons_zero, List.set_cons_succ])
        refine wpAnyH_take (i := 19) (oi := ?oi113) (v := ?v113) ?hi113 (by kernel_rfl) (by kernel_rfl) (by kernel_rfl) ?hQ113 (Or.inl ⟨?hw113, ?hy113⟩) (by assumption) ?rest113
        case hi113 => (simp only [List.getElem?_toArray, List.getElem?_cons_succ, List.getElem?_cons_zero]; rfl)
        case hQ113 => exact fun _ _ _ h => h
        case hw113 => rfl
        case hy113 => (intro w hSw; (try dsimp only at hSw); go_simp; try with_reducible rfl)
        (try simp only [Act.put, List.setIfInBounds_toArray, List.set_cons_zero, List.set_cons_succ])
        refine wpAnyH_take (i := 20) (oi := ?oi114) (v := ?v114) ?hi114 (by kernel_rfl) (by kernel_rfl) (by kernel_rfl) ?hQ114 (Or.inl ⟨?hw114, ?hy114⟩) (by assumption) ?rest114
        case hi114 => (simp only [List.getElem?_toArray, List.getElem?_cons_succ, List.getElem?_cons_zero]; rfl)
        case hQ114 => exact fun _ _ _ h => h
        case hw114 => rfl
        case hy114 => (intro w hSw; (try dsimp only at hSw); go_simp; try with_reducible rfl)
        (try simp only [Act.put, List.setIfInBounds_toArray, List.set_cons_zero, List.set_cons_succ])
        refine wpAnyH_take (i := 21) (oi := ?oi115) (v := ?v115) ?hi115 (by kernel_rfl) (by kernel_rfl) (by kernel_rfl) ?hQ115 (Or.inl ⟨?hw115, ?hy115⟩) (by assumption) ?rest115
        case hi115 => (simp only [List.getElem?_toArray, List.getElem?_cons_succ, List.getElem?_cons_zero]; rfl)
        case hQ115 => exact fun _ _ _ h => h
        case hw115 => rfl
        case hy115 => (intro w hSw; (try dsimp only at hSw); go_simp; try with_reducible rfl)
        (try simp only [Act.put, List.setIfInBounds_toArray, List.set_cons_zero, List.set_cons_succ])
        refine wpAnyH_take (i := 23) (oi := ?oi116) (v := ?v116) ?hi116 (by kernel_rfl) (by kernel_rfl) (by kernel_rfl) ?hQ116 (Or.inl ⟨?hw116, ?hy116⟩) (by assumption) ?rest116
        case hi116 => (simp only [List.getElem?_toArray, List.getElem?_cons_succ, List.getElem?_cons_zero]; rfl)
        case hQ116 => exact fun _ _ _ h => h
        case hw116 => rfl
        case hy116 => (intro w hSw; (try dsimp only at hSw); go_simp; try with_reducible rfl)
        (try simp only [Act.put, List.setIfInBounds_toArray, List.set_cons_zero, List.set_cons_succ])
        refine wpAnyH_ready (rs := [22]) (by kernel_rfl) (by simp) ?_
        refine AllReadyH.cons (o := ?o117) ?ho117 (fun K hK => ?st117) AllReadyH.nil
        case ho117 => (simp only [List.getElem?_toArray, List.getElem?_cons_succ, List.getElem?_cons_zero]; rfl)
        go_simp
        refine (Q1.out _ (And.left hHeld)).mono ?_; rintro e wE ⟨rfl, hbE⟩
        refine hK.out _ _ ?_ (fun hHeld => ?_)
        · (try dsimp only); (first | exact HKA.out _ _ (by assumption) | exact HK.out _ _ (by assumption) hbA | exact HK.out _ _ (by assumption) hbB | exact HK.out _ _ (by assumption) hbC | exact HK.out _ _ (by assumption) hbD | exact HK.out _ _ (by assumption) hbE | exact HK.out _ _ (by assumption) hbF | exact HK.out _ _ (by assumption) hbG)
        clear hK K
        (try simp only [Act.put, List.setIfInBounds_toArray, List.set_cons_zero, List.set_cons_succ])
        refine wpAnyH_ready (rs := [24]) (by kernel_rfl) (by simp) ?_
        refine AllReadyH.cons (o := ?o118) ?ho118 (fun K hK => ?st118) AllReadyH.nil
        case ho118 => (simp only [List.getElem?_toArray, List.getElem?_cons_succ, List.getElem?_cons_zero]; rfl)
        go_simp
        refine (Q2.out _ (And.left hHeld)).mono ?_; rintro e wF ⟨rfl, hbF⟩
        refine hK.out _ _ ?_ (fun hHeld => ?_)
        · (try dsimp only); (first | exact HKA.out _ _ (by assumption) | exact HK.out _ _ (by assumption) hbA | exact HK.out _ _ (by assumption) hbB | exact HK.out _ _ (by assumption) hbC | exact HK.out _ _ (by assumption) hbD | exact HK.out _ _ (by assumption) hbE | exact HK.out _ _ (by assumption) hbF | exact HK.out _ _ (by assumption) hbG)
        clear hK K
        (try simp only [Act.put, List.setIfInBounds_toArray, List.set_cons_zero, List.set_cons_succ])
        refine wpAnyH_take (i := 25) (oi := ?oi119) (v := ?v119) ?hi119 (by kernel_rfl) (by kernel_rfl) (by kernel_rfl) ?hQ119 (Or.inl ⟨?hw119, ?hy119⟩) (by assumption) ?rest119
        case hi119 => (simp only [List.getElem?_toArray, List.getElem?_cons_succ, List.getElem?_cons_zero]; rfl)
        case hQ119 => exact fun _ _ _ h => h
        case hw119 => rfl
        case hy119 => (intro w hSw; (try dsimp only at hSw); go_simp; try with_reducible rfl)
        (try simp only [Act.put, List.setIfInBounds_toArray, List.set_cons_zero, List.set_cons_succ])
        refine wpAnyH_take (i := 26) (oi := ?oi120) (v := ?v120) ?hi120 (by kernel_rfl) (by kernel_rfl) (by kernel_rfl) ?hQ120 (Or.inl ⟨?hw120, ?hy120⟩) (by assumption) ?rest120
        case hi120 => (simp only [List.getElem?_toArray, List.getElem?_cons_succ, List.getElem?_cons_zero]; rfl)
        case hQ120 => exact fun _ _ _ h => h
        case hw120 => rfl
        case hy120 => (intro w hSw; (try dsimp only at hSw); go_simp; try with_reducible rfl)
        (try simp only [Act.put, List.setIfInBounds_toArray, List.set_cons_zero, List.set_cons_succ])
        refine wpAnyH_take (i := 27) (oi := ?oi121) (v := ?v121) ?hi121 (by kernel_rfl) (by kernel_rfl) (by kernel_rfl) ?hQ121 (Or.inl ⟨?hw121, ?hy121⟩) (by assumption) ?rest121
        case hi121 => (simp only [List.getElem?_toArray, List.getElem?_cons_succ, List.getElem?_cons_zero]; rfl)
        case hQ121 => exact fun _ _ _ h => h
        case hw121 => rfl
        case hy121 => (intro w hSw; (try dsimp only at hSw); go_simp; try with_reducible rfl)
        (try simp only [Act.put, List.setIfInBounds_toArray, List.set_cons_zero, List.set_cons_succ])
        refine wpAnyH_take (i := 28) (oi := ?oi122) (v := ?v122) ?hi122 (by kernel_rfl) (by kernel_rfl) (by kernel_rfl) ?hQ122 (Or.inl ⟨?hw122, ?hy122⟩) (by assumption) ?rest122
        case hi122 => (simp only [List.getElem?_toArray, List.getElem?_cons_succ, List.getElem?_cons_zero]; rfl)
        case hQ122 => exact fun _ _ _ h => h
        case hw122 => rfl
        case hy122 => (intro w hSw; (try dsimp only at hSw); go_simp; try with_reducible rfl)
        (try simp only [Act.put, List.setIfInBounds_toArray, List.set_cons_zero, List.set_cons_succ])
        refine wpAnyH_ready (rs := [29]) (by kernel_rfl) (by simp) ?_
        refine AllReadyH.cons (o := ?o123) ?ho123 (fun K hK => ?st123) AllReadyH.nil
        case ho123 => (simp only [List.getElem?_toArray, List.getElem?_cons_succ, List.getElem?_cons_zero]; rfl)
        go_simp
        refine (awake4_any _).mono ?_; rintro e wG ⟨rfl, hbG⟩
        refine hK.out _ _ ?_ (fun hHeld => ?_)
        · (try dsimp only); (first | exact HKA.out _ _ (by assumption) | exact HK.out _ _ (by assumption) hbA | exact HK.out _ _ (by assumption) hbB | exact HK.out _ _ (by assumption) hbC | exact HK.out _ _ (by assumption) hbD | exact HK.out _ _ (by assumption) hbE | exact HK.out _ _ (by assumption) hbF | exact HK.out _ _ (by assumption) hbG)
        clear hK K
        (try simp only [Act.put, List.setIfInBounds_toArray, List.set_cons_zero, List.set_cons_succ])
        refine wpAnyH_take (i := 30) (oi := ?oi124) (v := ?v124) ?hi124 (by kernel_rfl) (by kernel_rfl) (by kernel_rfl) ?hQ124 (Or.inl ⟨?hw124, ?hy124⟩) (by assumption) ?rest124
        case hi124 => (simp only [List.getElem?_toArray, List.getElem?_cons_succ, List.getElem?_cons_zero]; rfl)
        case hQ124 => exact fun _ _ _ h => h
        case hw124 => rfl
        case hy124 => (intro w hSw; (try dsimp only at hSw); go_simp; try with_reducible rfl)
        (try simp only [Act.put, List.setIfInBounds_toArray, List.set_cons_zero, List.set_cons_succ])
        refine wpAnyH_take (i := 31) (oi := ?oi125) (v := ?v125) ?hi125 (by kernel_rfl) (by kernel_rfl) (by kernel_rfl) ?hQ125 (Or.inl ⟨?hw125, ?hy125⟩) (by assumption) ?rest125
        case hi125 => (simp only [List.getElem?_toArray, List.getElem?_cons_succ, List.getElem?_cons_zero]; rfl)
        case hQ125 => exact fun _ _ _ h => h
        case hw125 => rfl
        case hy125 => (intro w hSw; (try dsimp only at hSw); go_simp; try with_reducible rfl)
        (try simp only [Act.put, List.setIfInBounds_toArray, List.set_cons_zero, List.set_cons_succ])
        refine wpAnyH_done (by kernel_rfl) ?_ _
        go_wp2
        go_ret
        exact ⟨rfl, HL5.out.trans ((And.left hHeld).mono HL5.out.size)⟩
      · go_simp
        refine hK.out _ _ ?_ (fun hHeld => ?_)
        · (try dsimp only); (first | exact HKA.out _ _ (by assumption) | exact HK.out _ _ (by assumption) hbA | exact HK.out _ _ (by assumption) hbB | exact HK.out _ _ (by assumption) hbC | exact HK.out _ _ (by assumption) hbD | exact HK.out _ _ (by assumption) hbE | exact HK.out _ _ (by assumption) hbF | exact HK.out _ _ (by assumption) hbG)
        clear hK K
        (try simp only [Act.put, List.setIfInBounds_toArray, List.set_cons_zero, List.set_cons_succ])
        refine wpAnyH_ready (rs := [2]) (by kernel_rfl) (by simp) ?_
        refine AllReadyH.cons (o := ?o126) ?ho126 (fun K hK => ?st126) AllReadyH.nil
        case ho126 => (simp only [List.getElem?_toArray, List.getElem?_cons_succ, List.getElem?_cons_zero]; rfl)
        go_simp
        refine (E1.out _ _ (by first | exact nine_bs _ | exact nine_one _ _ | (refine Bs.alloc ?_ _; exact nine_bs _))).mono ?_; rintro e wA ⟨vA, rfl, hsA, hbA⟩
        refine hK.out _ _ ?_ (fun hHeld => ?_)
        · (try dsimp only); (first | exact HKA.out _ _ (by assumption) | exact HK.out _ _ (by assumption) hbA | exact HK.out _ _ (by assumption) hbB | exact HK.out _ _ (by assumption) hbC | exact HK.out _ _ (by assumption) hbD | exact HK.out _ _ (by assumption) hbE | exact HK.out _ _ (by assumption) hbF | exact HK.out _ _ (by assumption) hbG)
        clear hK K
        (try simp only [Act.put, List.setIfInBounds_toArray, List.set_cons_zero, List.set_cons_succ])
        refine wpAnyH_ready (rs := [5]) (by kernel_rfl) (by simp) ?_
        refine AllReadyH.cons (o := ?o127) ?ho127 (fun K hK => ?st127) AllReadyH.nil
        case ho127 => (simp only [List.getElem?_toArray, List.getElem?_cons_succ, List.getElem?_cons_zero]; rfl)
        go_simp
        refine (E2.out _ _ (by first | exact nine_bs _ | (refine Bs.below ?_ hbA (Nat.le_refl _); first | exact nine_bs _ | exact nine_one _ _ | (refine Bs.alloc ?_ _; exact nine_bs _)))).mono ?_; rintro e wB ⟨vB, rfl, hsB, hbB⟩
        refine hK.out _ _ ?_ (fun hHeld => ?_)
        · (try dsimp only); (first | exact HKA.out _ _ (by assumption) | exact HK.out _ _ (by assumption) hbA | exact HK.out _ _ (by assumption) hbB | exact HK.out _ _ (by assumption) hbC | exact HK.out _ _ (by assumption) hbD | exact HK.out _ _ (by assumption) hbE | exact HK.out _ _ (by assumption) hbF | exact HK.out _ _ (by assumption) hbG)
        clear hK K
        (try simp only [Act.put, List.setIfInBounds_toArray, List.set_cons_zero, List.set_cons_succ])
        refine wpAnyH_ready (rs := [6]) (by kernel_rfl) (by simp) ?_
        refine AllReadyH.cons (o := ?o128) ?ho128 (fun K hK => ?st128) AllReadyH.nil
        case ho128 => (simp only [List.getElem?_toArray, List.getElem?_cons_succ, List.getElem?_cons_zero]; rfl)
        go_simp
        refine (E4.out _ _ _ out (by first | exact hsA.below hbB (Nat.le_refl _) | exact (hsA.alloc _).below hbB (Nat.le_refl _)) hsB).mono ?_; rintro e wC ⟨rfl, hbC⟩
        refine hK.out _ _ ?_ (fun hHeld => ?_)
        · (try dsimp only); (first | exact HKA.out _ _ (by assumption) | exact HK.out _ _ (by assumption) hbA | exact HK.out _ _ (by assumption) hbB | exact HK.out _ _ (by assumption) hbC | exact HK.out _ _ (by assumption) hbD | exact HK.out _ _ (by assumption) hbE | exact HK.out _ _ (by assumption) hbF | exact HK.out _ _ (by assumption) hbG)
        clear hK K
        (try simp only [Act.put, List.setIfInBounds_toArray, List.set_cons_zero, List.set_cons_succ])
        refine wpAnyH_take (i := 7) (oi := ?oi129) (v := ?v129) ?hi129 (by kernel_rfl) (by kernel_rfl) (by kernel_rfl) ?hQ129 (Or.inl ⟨?hw129, ?hy129⟩) (by assumption) ?rest129
        case hi129 => (simp only [List.getElem?_toArray, List.getElem?_cons_succ, List.getElem?_cons_zero]; rfl)
        case hQ129 => exact fun _ _ _ h => h
        case hw129 => rfl
        case hy129 => (intro w hSw; (try dsimp only at hSw); go_simp; try with_reducible rfl)
        (try simp only [Act.put, List.setIfInBounds_toArray, List.set_cons_zero, List.set_cons_succ])
        refine wpAnyH_take (i := 8) (oi := ?oi130) (v := ?v130) ?hi130 (by kernel_rfl) (by kernel_rfl) (by kernel_rfl) ?hQ130 (Or.inl ⟨?hw130, ?hy130⟩) (by assumption) ?rest130
        case hi130 => (simp only [List.getElem?_toArray, List.getElem?_cons_succ, List.getElem?_cons_zero]; rfl)
        case hQ130 => exact fun _ _ _ h => h
        case hw130 => rfl
        case hy130 => (intro w hSw; (try dsimp only at hSw); go_simp; try with_reducible rfl)
        (try simp only [Act.put, List.setIfInBounds_toArray, List.set_cons_zero, List.set_cons_succ])
        refine wpAnyH_take (i := 9) (oi := ?oi131) (v := ?v131) ?hi131 (by kernel_rfl) (by kernel_rfl) (by kernel_rfl) ?hQ131 (Or.inl ⟨?hw131, ?hy131⟩) (by assumption) ?rest131
        case hi131 => (simp only [List.getElem?_toArray, List.getElem?_cons_succ, List.getElem?_cons_zero]; rfl)
        case hQ131 => exact fun _ _ _ h => h
        case hw131 => rfl
        case hy131 => (intro w hSw; (try dsimp only at hSw); go_simp; try with_reducible rfl)
        (try simp only [Act.put, List.setIfInBounds_toArray, List.set_cons_zero, List.set_cons_succ])
        refine wpAnyH_ready (rs := [10]) (by kernel_rfl) (by simp) ?_
        refine AllReadyH.cons (o := ?o132) ?ho132 (fun K hK => ?st132) AllReadyH.nil
        case ho132 => (simp only [List.getElem?_toArray, List.getElem?_cons_succ, List.getElem?_cons_zero]; rfl)
        go_simp
        refine (E3.out _ x).mono ?_; rintro e wD ⟨rfl, hbD⟩
        refine hK.out _ _ ?_ (fun hHeld => ?_)
        · (try dsimp only); (first | exact HKA.out _ _ (by assumption) | exact HK.out _ _ (by assumption) hbA | exact HK.out _ _ (by assumption) hbB | exact HK.out _ _ (by assumption) hbC | exact HK.out _ _ (by assumption) hbD | exact HK.out _ _ (by assumption) hbE | exact HK.out _ _ (by assumption) hbF | exact HK.out _ _ (by assumption) hbG)
        clear hK K
        (try simp only [Act.put, List.setIfInBounds_toArray, List.set_cons_zero, List.set_cons_succ])
        refine wpAnyH_take (i := 11) (oi := ?oi133) (v := ?v133) ?hi133 (by kernel_rfl) (by kernel_rfl) (by kernel_rfl) ?hQ133 (Or.inl ⟨?hw133, ?hy133⟩) (by assumption) ?rest133
        case hi133 => (simp only [List.getElem?_toArray, List.getElem?_cons_succ, List.getElem?_cons_zero]; rfl)
        case hQ133 => exact fun _ _ _ h => h
        case hw133 => rfl
        case hy133 => (intro w hSw; (try dsimp only at hSw); go_simp; try with_reducible rfl)
        (try simp only [Act.put, List.setIfInBounds_toArray, List.set_cons_zero, List.set_cons_succ])
        refine wpAnyH_take (i := 12) (oi := ?oi134) (v := ?v134) ?hi134 (by kernel_rfl) (by kernel_rfl) (by kernel_rfl) ?hQ134 (Or.inl ⟨?hw134, ?hy134⟩) (by assumption) ?rest134
        case hi134 => (simp only [List.getElem?_toArray, List.getElem?_cons_succ, List.getElem?_cons_zero]; rfl)
        case hQ134 => exact fun _ _ _ h => h
        case hw134 => rfl
        case hy134 => (intro w hSw; (try dsimp only at hSw); go_simp; try with_reducible rfl)
        (try simp only [Act.put, List.setIfInBounds_toArray, List.set_cons_zero, List.set_cons_succ])
        refine wpAnyH_take (i := 13) (oi := ?oi135) (v := ?v135) ?hi135 (by kernel_rfl) (by kernel_rfl) (by kernel_rfl) ?hQ135 (Or.inl ⟨?hw135, ?hy135⟩) (by assumption) ?rest135
        case hi135 => (simp only [List.getElem?_toArray, List.getElem?_cons_succ, List.getElem?_cons_zero]; rfl)
        case hQ135 => exact fun _ _ _ h => h
        case hw135 => rfl
        case hy135 => (intro w hSw; (try dsimp only at hSw); go_simp; try with_reducible rfl)
        (try simp only [Act.put, List.setIfInBounds_toArray, List.set_cons_zero, List.set_cons_succ])
        refine wpAnyH_take (i := 14) (oi := ?oi136) (v := ?v136) ?hi136 (by kernel_rfl) (by kernel_rfl) (by kernel_rfl) ?hQ136 (Or.inl ⟨?hw136, ?hy136⟩) (by assumption) ?rest136
        case hi136 => (simp only [List.getElem?_toArray, List.getElem?_cons_succ, List.getElem?_cons_zero]; rfl)
        case hQ136 => exact fun _ _ _ h => h
        case hw136 => rfl
        case hy136 => (intro w hSw; (try dsimp only at hSw); go_simp; try with_reducible rfl)
        (try simp only [Act.put, List.setIfInBounds_toArray, List.set_cons_zero, List.set_cons_succ])
        refine wpAnyH_take (i := 15) (oi := ?oi137) (v := ?v137) ?hi137 (by kernel_rfl) (by kernel_rfl) (by kernel_rfl) ?hQ137 (Or.inl ⟨?hw137, ?hy137⟩) (by assumption) ?rest137
        case hi137 => (simp only [List.getElem?_toArray, List.getElem?_cons_succ, List.getElem?_cons_zero]; rfl)
        case hQ137 => exact fun _ _ _ h => h
        case hw137 => rfl
        case hy137 => (intro w hSw; (try dsimp only at hSw); go_simp; try with_reducible rfl)
        (try simp only [Act.put, List.setIfInBounds_toArray, List.set_cons_zero, List.set_cons_succ])
        refine wpAnyH_take (i := 16) (oi := ?oi138) (v := ?v138) ?hi138 (by kernel_rfl) (by kernel_rfl) (by kernel_rfl) ?hQ138 (Or.inl ⟨?hw138, ?hy138⟩) (by assumption) ?rest138
        case hi138 => (simp only [List.getElem?_toArray, List.getElem?_cons_succ, List.getElem?_cons_zero]; rfl)
        case hQ138 => exact fun _ _ _ h => h
        case hw138 => rfl
        case hy138 => (intro w hSw; (try dsimp only at hSw); go_simp; try with_reducible rfl)
        (try simp only [Act.put, List.setIfInBounds_toArray, List.set_cons_zero, List.set_cons_succ])
        refine wpAnyH_take (i := 17) (oi := ?oi139) (v := ?v139) ?hi139 (by kernel_rfl) (by kernel_rfl) (by kernel_rfl) ?hQ139 (Or.inl ⟨?hw139, ?hy139⟩) (by assumption) ?rest139
        case hi139 => (simp only [List.getElem?_toArray, List.getElem?_cons_succ, List.getElem?_cons_zero]; rfl)
        case hQ139 => exact fun _ _ _ h => h
        case hw139 => rfl
        case hy139 => (intro w hSw; (try dsimp only at hSw); go_simp; try with_reducible rfl)
        (try simp only [Act.put, List.setIfInBounds_toArray, List.set_cons_zero, List.set_cons_succ])
        refine wpAnyH_take (i := 18) (oi := ?oi140) (v := ?v140) ?hi140 (by kernel_rfl) (by kernel_rfl) (by kernel_rfl) ?hQ140 (Or.inl ⟨?hw140, ?hy140⟩) (by assumption) ?rest140
        case hi140 => (simp only [List.getElem?_toArray, List.getElem?_cons_succ, List.getElem?_cons_zero]; rfl)
        case hQ140 => exact fun _ _ _ h => h
        case hw140 => rfl
        case hy140 => (intro w hSw; (try dsimp only at hSw); go_simp; try with_reducible rfl)
        (try simp only [Act.put, List.setIfInBounds_toArray, List.set_cons_zero, List.set_cons_succ])
        refine wpAnyH_take (i := 19) (oi := ?oi141) (v := ?v141) ?hi141 (by kernel_rfl) (by kernel_rfl) (by kernel_rfl) ?hQ141 (Or.inl ⟨?hw141, ?hy141⟩) (by assumption) ?rest141
        case hi141 => (simp only [List.getElem?_toArray, List.getElem?_cons_succ, List.getElem?_cons_zero]; rfl)
        case hQ141 => exact fun _ _ _ h => h
        case hw141 => rfl
        case hy141 => (intro w hSw; (try dsimp only at hSw); go_simp; try with_reducible rfl)
        (try simp only [Act.put, List.setIfInBounds_toArray, List.set_cons_zero, List.set_cons_succ])
        refine wpAnyH_take (i := 20) (oi := ?oi142) (v := ?v142) ?hi142 (by kernel_rfl) (by kernel_rfl) (by kernel_rfl) ?hQ142 (Or.inl ⟨?hw142, ?hy142⟩) (by assumption) ?rest142
        case hi142 => (simp only [List.getElem?_toArray, List.getElem?_cons_succ, List.getElem?_cons_zero]; rfl)
        case hQ142 => exact fun _ _ _ h => h
        case hw142 => rfl
        case hy142 => (intro w hSw; (try dsimp only at hSw); go_simp; try with_reducible rfl)
        (try simp only [Act.put, List.setIfInBounds_toArray, List.set_cons_zero, List.set_cons_succ])
        refine wpAnyH_take (i := 21) (oi := ?oi143) (v := ?v143) ?hi143 (by kernel_rfl) (by kernel_rfl) (by kernel_rfl) ?hQ143 (Or.inl ⟨?hw143, ?hy143⟩) (by assumption) ?rest143
        case hi143 => (simp only [List.getElem?_toArray, List.getElem?_cons_succ, List.getElem?_cons_zero]; rfl)
        case hQ143 => exact fun _ _ _ h => h
        case hw143 => rfl
        case hy143 => (intro w hSw; (try dsimp only at hSw); go_simp; try with_reducible rfl)
        (try simp only [Act.put, List.setIfInBounds_toArray, List.set_cons_zero, List.set_cons_succ])
        refine wpAnyH_take (i := 23) (oi := ?oi144) (v := ?v144) ?hi144 (by kernel_rfl) (by kernel_rfl) (by kernel_rfl) ?hQ144 (Or.inl ⟨?hw144, ?hy144⟩) (by assumption) ?rest144
        case hi144 => (simp only [List.getElem?_toArray, List.getElem?_cons_succ, List.getElem?_cons_zero]; rfl)
        case hQ144 => exact fun _ _ _ h => h
        case hw144 => rfl
        case hy144 => (intro w hSw; (try dsimp only at hSw); go_simp; try with_reducible rfl)
        (try simp only [Act.put, List.setIfInBounds_toArray, List.set_cons_zero, List.set_cons_succ])
        refine wpAnyH_ready (rs := [22]) (by kernel_rfl) (by simp) ?_
        refine AllReadyH.cons (o := ?o145) ?ho145 (fun K hK => ?st145) AllReadyH.nil
        case ho145 => (simp only [List.getElem?_toArray, List.getElem?_cons_succ, List.getElem?_cons_zero]; rfl)
        go_simp
        refine (Q1.out _ (And.left hHeld)).mono ?_; rintro e wE ⟨rfl, hbE⟩
        refine hK.out _ _ ?_ (fun hHeld => ?_)
        · (try dsimp only); (first | exact HKA.out _ _ (by assumption) | exact HK.out _ _ (by assumption) hbA | exact HK.out _ _ (by assumption) hbB | exact HK.out _ _ (by assumption) hbC | exact HK.out _ _ (by assumption) hbD | exact HK.out _ _ (by assumption) hbE | exact HK.out _ _ (by assumption) hbF | exact HK.out _ _ (by assumption) hbG)
        clear hK K
        (try simp only [Act.put, List.setIfInBounds_toArray, List.set_cons_zero, List.set_cons_succ])
        refine wpAnyH_ready (rs := [24]) (by kernel_rfl) (by simp) ?_
        refine AllReadyH.cons (o := ?o146) ?ho146 (fun K hK => ?st146) AllReadyH.nil
        case ho146 => (simp only [List.getElem?_toArray, List.getElem?_cons_succ, List.getElem?_cons_zero]; rfl)
        go_simp
        refine (Q2.out _ (And.left hHeld)).mono ?_; rintro e wF ⟨rfl, hbF⟩
        refine hK.out _ _ ?_ (fun hHeld => ?_)
        · (try dsimp only); (first | exact HKA.out _ _ (by assumption) | exact HK.out _ _ (by assumption) hbA | exact HK.out _ _ (by assumption) hbB | exact HK.out _ _ (by assumption) hbC | exact HK.out _ _ (by assumption) hbD | exact HK.out _ _ (by assumption) hbE | exact HK.out _ _ (by assumption) hbF | exact HK.out _ _ (by assumption) hbG)
        clear hK K
        (try simp only [Act.put, List.setIfInBounds_toArray, List.set_cons_zero, List.set_cons_succ])
        refine wpAnyH_take (i := 25) (oi := ?oi147) (v := ?v147) ?hi147 (by kernel_rfl) (by kernel_rfl) (by kernel_rfl) ?hQ147 (Or.inl ⟨?hw147, ?hy147⟩) (by assumption) ?rest147
        case hi147 => (simp only [List.getElem?_toArray, List.getElem?_cons_succ, List.getElem?_cons_zero]; rfl)
        case hQ147 => exact fun _ _ _ h => h
        case hw147 => rfl
        case hy147 => (intro w hSw; (try dsimp only at hSw); go_simp; try with_reducible rfl)
        (try simp only [Act.put, List.setIfInBounds_toArray, List.set_cons_zero, List.set_cons_succ])
        refine wpAnyH_take (i := 26) (oi := ?oi148) (v := ?v148) ?hi148 (by kernel_rfl) (by kernel_rfl) (by kernel_rfl) ?hQ148 (Or.inl ⟨?hw148, ?hy148⟩) (by assumption) ?rest148
        case hi148 => (simp only [List.getElem?_toArray, List.getElem?_cons_succ, List.getElem?_cons_zero]; rfl)
        case hQ148 => exact fun _ _ _ h => h
        case hw148 => rfl
        case hy148 => (intro w hSw; (try dsimp only at hSw); go_simp; try with_reducible rfl)
        (try simp only [Act.put, List.setIfInBounds_toArray, List.set_cons_zero, List.set_cons_succ])
        refine wpAnyH_take (i := 27) (oi := ?oi149) (v := ?v149) ?hi149 (by kernel_rfl) (by kernel_rfl) (by kernel_rfl) ?hQ149 (Or.inl ⟨?hw149, ?hy149⟩) (by assumption) ?rest149
        case hi149 => (simp only [List.getElem?_toArray, List.getElem?_cons_succ, List.getElem?_cons_zero]; rfl)
        case hQ149 => exact fun _ _ _ h => h
        case hw149 => rfl
        case hy149 => (intro w hSw; (try dsimp only at hSw); go_simp; try with_reducible rfl)
        (try simp only [Act.put, List.setIfInBounds_toArray, List.set_cons_zero, List.set_cons_succ])
        refine wpAnyH_take (i := 28) (oi := ?oi150) (v := ?v150) ?hi150 (by kernel_rfl) (by kernel_rfl) (by kernel_rfl) ?hQ150 (Or.inl ⟨?hw150, ?hy150⟩) (by assumption) ?rest150
        case hi150 => (simp only [List.getElem?_toArray, List.getElem?_cons_succ, List.getElem?_cons_zero]; rfl)
        case hQ150 => exact fun _ _ _ h => h
        case hw150 => rfl
        case hy150 => (intro w hSw; (try dsimp only at hSw); go_simp; try with_reducible rfl)
        (try simp only [Act.put, List.setIfInBounds_toArray, List.set_cons_zero, List.set_cons_succ])
        refine wpAnyH_ready (rs := [29]) (by kernel_rfl) (by simp) ?_
        refine AllReadyH.cons (o := ?o151) ?ho151 (fun K hK => ?st151) AllReadyH.nil
        case ho151 => (simp only [List.getElem?_toArray, List.getElem?_cons_succ, List.getElem?_cons_zero]; rfl)
        go_simp
        refine (awake4_any _).mono ?_; rintro e wG ⟨rfl, hbG⟩
        refine hK.out _ _ ?_ (fun hHeld => ?_)
        · (try dsimp only); (first | exact HKA.out _ _ (by assumption) | exact HK.out _ _ (by assumption) hbA | exact HK.out _ _ (by assumption) hbB | exact HK.out _ _ (by assumption) hbC | exact HK.out _ _ (by assumption) hbD | exact HK.out _ _ (by assumption) hbE | exact HK.out _ _ (by assumption) hbF | exact HK.out _ _ (by assumption) hbG)
        clear hK K
        (try simp only [Act.put, List.setIfInBounds_toArray, List.set_cons_zero, List.set_cons_succ])
        refine wpAnyH_take (i := 30) (oi := ?oi152) (v := ?v152) ?hi152 (by kernel_rfl) (by kernel_rfl) (by kernel_rfl) ?hQ152 (Or.inl ⟨?hw152, ?hy152⟩) (by assumption) ?rest152
        case hi152 => (simp only [List.getElem?_toArray, List.getElem?_cons_succ, List.getElem?_cons_zero]; rfl)
        case hQ152 => exact fun _ _ _ h => h
        case hw152 => rfl
        case hy152 => (intro w hSw; (try dsimp only at hSw); go_simp; try with_reducible rfl)
        (try simp only [Act.put, List.setIfInBounds_toArray, List.set_cons_zero, List.set_cons_succ])
        refine wpAnyH_take (i := 31) (oi := ?oi153) (v := ?v153) ?hi153 (by kernel_rfl) (by kernel_rfl) (by kernel_rfl) ?hQ153 (Or.inl ⟨?hw153, ?hy153⟩) (by assumption) ?rest153
        case hi153 => (simp only [List.getElem?_toArray, List.getElem?_cons_succ, List.getElem?_cons_zero]; rfl)
        case hQ153 => exact fun _ _ _ h => h
        case hw153 => rfl
        case hy153 => (intro w hSw; (try dsimp only at hSw); go_simp; try with_reducible rfl)
        (try simp only [Act.put, List.setIfInBounds_toArray, List.set_cons_zero, List.set_cons_succ])
        refine wpAnyH_done (by kernel_rfl) ?_ _
        go_wp2
        go_ret
        exact ⟨rfl, HL5.out.trans ((And.left hHeld).mono HL5.out.size)⟩
    · go_simp
      refine hK.out _ _ ?_ (fun hHeld => ?_)
      · (try dsimp only); (first | exact HKA.out _ _ (by assumption) | exact HK.out _ _ (by assumption) hbA | exact HK.out _ _ (by assumption) hbB | exact HK.out _ _ (by assumption) hbC | exact HK.out _ _ (by assumption) hbD | exact HK.out _ _ (by assumption) hbE | exact HK.out _ _ (by assumption) hbF | exact HK.out _ _ (by assumption) hbG)
      clear hK K
      (try simp only [Act.put, List.setIfInBounds_toArray, List.set_cons_zero, List.set_cons_succ])
      refine wpAnyH_ready (rs := [0]) (by kernel_rfl) (by simp) ?_
      refine AllReadyH.cons (o := ?o154) ?ho154 (fun K hK => ?st154) AllReadyH.nil
      case ho154 => (simp only [List.getElem?_toArray, List.getElem?_cons_succ, List.getElem?_cons_zero]; rfl)
      go_simp
      refine hK.out _ _ ?_ (fun hHeld => ?_)
      · (try dsimp only); (first | exact HKA.out _ _ (by assumption) | exact HK.out _ _ (by assumption) hbA | exact HK.out _ _ (by assumption) hbB | exact HK.out _ _ (by assumption) hbC | exact HK.out _ _ (by assumption) hbD | exact HK.out _ _ (by assumption) hbE | exact HK.out _ _ (by assumption) hbF | exact HK.out _ _ (by assumption) hbG)
      clear hK K
      (try simp only [Act.put, List.setIfInBounds_toArray, List.set_cons_zero, List.set_cons_succ])
      refine wpAnyH_ready (rs := [2]) (by kernel_rfl) (by simp) ?_
      refine AllReadyH.cons (o := ?o155) ?ho155 (fun K hK => ?st155) AllReadyH.nil
      case ho155 => (simp only [List.getElem?_toArray, List.getElem?_cons_succ, List.getElem?_cons_zero]; rfl)
      go_simp
      refine (E1.out _ _ (by first | exact nine_bs _ | exact nine_one _ _ | (refine Bs.alloc ?_ _; exact nine_bs _))).mono ?_; rintro e wA ⟨vA, rfl, hsA, hbA⟩
      refine hK.out _ _ ?_ (fun hHeld => ?_)
      · (try dsimp only); (first | exact HKA.out _ _ (by assumption) | exact HK.out _ _ (by assumption) hbA | exact HK.out _ _ (by assumption) hbB | exact HK.out _ _ (by assumption) hbC | exact HK.out _ _ (by assumption) hbD | exact HK.out _ _ (by assumption) hbE | exact HK.out _ _ (by assumption) hbF | exact HK.out _ _ (by assumption) hbG)
      clear hK K
      (try simp only [Act.put, List.setIfInBounds_toArray, List.set_cons_zero, List.set_cons_succ])
      refine wpAnyH_ready (rs := [5]) (by kernel_rfl) (by simp) ?_
      refine AllReadyH.cons (o := ?o156) ?ho156 (fun K hK => ?st156) AllReadyH.nil
      case ho156 => (simp only [List.getElem?_toArray, List.getElem?_cons_succ, List.getElem?_cons_zero]; rfl)
      go_simp
      refine (E2.out _ _ (by first | exact nine_bs _ | (refine Bs.below ?_ hbA (Nat.le_refl _); first | exact nine_bs _ | exact nine_one _ _ | (refine Bs.alloc ?_ _; exact nine_bs _)))).mono ?_; rintro e wB ⟨vB, rfl, hsB, hbB⟩
      refine hK.out _ _ ?_ (fun hHeld => ?_)
      · (try dsimp only); (first | exact HKA.out _ _ (by assumption) | exact HK.out _ _ (by assumption) hbA | exact HK.out _ _ (by assumption) hbB | exact HK.out _ _ (by assumption) hbC | exact HK.out _ _ (by assumption) hbD | exact HK.out _ _ (by assumption) hbE | exact HK.out _ _ (by assumption) hbF | exact HK.out _ _ (by assumption) hbG)
      clear hK K
      (try simp only [Act.put, List.setIfInBounds_toArray, List.set_cons_zero, List.set_cons_succ])
      refine wpAnyH_ready (rs := [6]) (by kernel_rfl) (by simp) ?_
      refine AllReadyH.cons (o := ?o157) ?ho157 (fun K hK => ?st157) AllReadyH.nil
      case ho157 => (simp only [List.getElem?_toArray, List.getElem?_cons_succ, List.getElem?_cons_zero]; rfl)
      go_simp
      refine (E4.out _ _ _ out (by first | exact hsA.below hbB (Nat.le_refl _) | exact (hsA.alloc _).below hbB (Nat.le_refl _)) hsB).mono ?_; rintro e wC ⟨rfl, hbC⟩
      refine hK.out _ _ ?_ (fun hHeld => ?_)
      · (try dsimp only); (first | exact HKA.out _ _ (by assumption) | exact HK.out _ _ (by assumption) hbA | exact HK.out _ _ (by assumption) hbB | exact HK.out _ _ (by assumption) hbC | exact HK.out _ _ (by assumption) hbD | exact HK.out _ _ (by assumption) hbE | exact HK.out _ _ (by assumption) hbF | exact HK.out _ _ (by assumption) hbG)
      clear hK K
      (try simp only [Act.put, List.setIfInBounds_toArray, List.set_cons_zero, List.set_cons_succ])
      refine wpAnyH_take (i := 7) (oi := ?oi158) (v := ?v158) ?hi158 (by kernel_rfl) (by kernel_rfl) (by kernel_rfl) ?hQ158 (Or.inl ⟨?hw158, ?hy158⟩) (by assumption) ?rest158
      case hi158 => (simp only [List.getElem?_toArray, List.getElem?_cons_succ, List.getElem?_cons_zero]; rfl)
      case hQ158 => exact fun _ _ _ h => h
      case hw158 => rfl
      case hy158 => (intro w hSw; (try dsimp only at hSw); go_simp; try with_reducible rfl)
      (try simp only [Act.put, List.setIfInBounds_toArray, List.set_cons_zero, List.set_cons_succ])
      refine wpAnyH_take (i := 8) (oi := ?oi159) (v := ?v159) ?hi159 (by kernel_rfl) (by kernel_rfl) (by kernel_rfl) ?hQ159 (Or.inl ⟨?hw159, ?hy159⟩) (by assumption) ?rest159
      case hi159 => (simp only [List.getElem?_toArray, List.getElem?_cons_succ, List.getElem?_cons_zero]; rfl)
      case hQ159 => exact fun _ _ _ h => h
      case hw159 => rfl
      case hy159 => (intro w hSw; (try dsimp only at hSw); go_simp; try with_reducible rfl)
      (try simp only [Act.put, List.setIfInBounds_toArray, List.set_cons_zero, List.set_cons_succ])
      refine wpAnyH_take (i := 9) (oi := ?oi160) (v := ?v160) ?hi160 (by kernel_rfl) (by kernel_rfl) (by kernel_rfl) ?hQ160 (Or.inl ⟨?hw160, ?hy160⟩) (by assumption) ?rest160
      case hi160 => (simp only [List.getElem?_toArray, List.getElem?_cons_succ, List.getElem?_cons_zero]; rfl)
      case hQ160 => exact fun _ _ _ h => h
      case hw160 => rfl
      case hy160 => (intro w hSw; (try dsimp only at hSw); go_simp; try with_reducible rfl)
      (try simp only [Act.put, List.setIfInBounds_toArray, List.set_cons_zero, List.set_cons_succ])
      refine wpAnyH_ready (rs := [10]) (by kernel_rfl) (by simp) ?_
      refine AllReadyH.cons (o := ?o161) ?ho161 (fun K hK => ?st161) AllReadyH.nil
      case ho161 => (simp only [List.getElem?_toArray, List.getElem?_cons_succ, List.getElem?_cons_zero]; rfl)
      go_simp
      refine (E3.out _ x).mono ?_; rintro e wD ⟨rfl, hbD⟩
      refine hK.out _ _ ?_ (fun hHeld => ?_)
      · (try dsimp only); (first | exact HKA.out _ _ (by assumption) | exact HK.out _ _ (by assumption) hbA | exact HK.out _ _ (by assumption) hbB | exact HK.out _ _ (by assumption) hbC | exact HK.out _ _ (by assumption) hbD | exact HK.out _ _ (by assumption) hbE | exact HK.out _ _ (by assumption) hbF | exact HK.out _ _ (by assumption) hbG)
      clear hK K
      (try simp only [Act.put, List.setIfInBounds_toArray, List.set_cons_zero, List.set_cons_succ])
      refine wpAnyH_take (i := 11) (oi := ?oi162) (v := ?v162) ?hi162 (by kernel_rfl) (by kernel_rfl) (by kernel_rfl) ?hQ162 (Or.inl ⟨?hw162, ?hy162⟩) (by assumption) ?rest162
      case hi162 => (simp only [List.getElem?_toArray, List.getElem?_cons_succ, List.getElem?_cons_zero]; rfl)
      case hQ162 => exact fun _ _ _ h => h
      case hw162 => rfl
      case hy162 => (intro w hSw; (try dsimp only at hSw); go_simp; try with_reducible rfl)
      (try simp only [Act.put, List.setIfInBounds_toArray, List.set_cons_zero, List.set_cons_succ])
      refine wpAnyH_take (i := 12) (oi := ?oi163) (v := ?v163) ?hi163 (by kernel_rfl) (by kernel_rfl) (by kernel_rfl) ?hQ163 (Or.inl ⟨?hw163, ?hy163⟩) (by assumption) ?rest163
      case hi163 => (simp only [List.getElem?_toArray, List.getElem?_cons_succ, List.getElem?_cons_zero]; rfl)
      case hQ163 => exact fun _ _ _ h => h
      case hw163 => rfl
      case hy163 => (intro w hSw; (try dsimp only at hSw); go_simp; try with_reducible rfl)
      (try simp only [Act.put, List.setIfInBounds_toArray, List.set_cons_zero, List.set_cons_succ])
      refine wpAnyH_take (i := 13) (oi := ?oi164) (v := ?v164) ?hi164 (by kernel_rfl) (by kernel_rfl) (by kernel_rfl) ?hQ164 (Or.inl ⟨?hw164, ?hy164⟩) (by assumption) ?rest164
      case hi164 => (simp only [List.getElem?_toArray, List.getElem?_cons_succ, List.getElem?_cons_zero]; rfl)
      case hQ164 => exact fun _ _ _ h => h
      case hw164 => rfl
      case hy164 => (intro w hSw; (try dsimp only at hSw); go_simp; try with_reducible rfl)
      (try simp only [Act.put, List.setIfInBounds_toArray, List.set_cons_zero, List.set_cons_succ])
      refine wpAnyH_take (i := 14) (oi := ?oi165) (v := ?v165) ?hi165 (by kernel_rfl) (by kernel_rfl) (by kernel_rfl) ?hQ165 (Or.inl ⟨?hw165, ?hy165⟩) (by assumption) ?rest165
      case hi165 => (simp only [List.getElem?_toArray, List.getElem?_cons_succ, List.getElem?_cons_zero]; rfl)
      case hQ165 => exact fun _ _ _ h => h
      case hw165 => rfl
      case hy165 => (intro w hSw; (try dsimp only at hSw); go_simp; try with_reducible rfl)
      (try simp only [Act.put, List.setIfInBounds_toArray, List.set_cons_zero, List.set_cons_succ])
      refine wpAnyH_take (i := 15) (oi := ?oi166) (v := ?v166) ?hi166 (by kernel_rfl) (by kernel_rfl) (by kernel_rfl) ?hQ166 (Or.inl ⟨?hw166, ?hy166⟩) (by assumption) ?rest166
      case hi166 => (simp only [List.getElem?_toArray, List.getElem?_cons_succ, List.getElem?_cons_zero]; rfl)
      case hQ166 => exact fun _ _ _ h => h
      case hw166 => rfl
      case hy166 => (intro w hSw; (try dsimp only at hSw); go_simp; try with_reducible rfl)
      (try simp only [Act.put, List.setIfInBounds_toArray, List.set_cons_zero, List.set_cons_succ])
      refine wpAnyH_take (i := 16) (oi := ?oi167) (v := ?v167) ?hi167 (by kernel_rfl) (by kernel_rfl) (by kernel_rfl) ?hQ167 (Or.inl ⟨?hw167, ?hy167⟩) (by assumption) ?rest167
      case hi167 => (simp only [List.getElem?_toArray, List.getElem?_cons_succ, List.getElem?_cons_zero]; rfl)
      case hQ167 => exact fun _ _ _ h => h
      case hw167 => rfl
      case hy167 => (intro w hSw; (try dsimp only at hSw); go_simp; try with_reducible rfl)
      (try simp only [Act.put, List.setIfInBounds_toArray, List.set_cons_zero, List.set_cons_succ])
      refine wpAnyH_take (i := 17) (oi := ?oi168) (v := ?v168) ?hi168 (by kernel_rfl) (by kernel_rfl) (by kernel_rfl) ?hQ168 (Or.inl ⟨?hw168, ?hy168⟩) (by assumption) ?rest168
      case hi168 => (simp only [List.getElem?_toArray, List.getElem?_cons_succ, List.getElem?_cons_zero]; rfl)
      case hQ168 => exact fun _ _ _ h => h
      case hw168 => rfl
      case hy168 => (intro w hSw; (try dsimp only at hSw); go_simp; try with_reducible rfl)
      (try simp only [Act.put, List.setIfInBounds_toArray, List.set_cons_zero, List.set_cons_succ])
      refine wpAnyH_take (i := 18) (oi := ?oi169) (v := ?v169) ?hi169 (by kernel_rfl) (by kernel_rfl) (by kernel_rfl) ?hQ169 (Or.inl ⟨?hw169, ?hy169⟩) (by assumption) ?rest169
      case hi169 => (simp only [List.getElem?_toArray, List.getElem?_cons_succ, List.getElem?_cons_zero]; rfl)
      case hQ169 => exact fun _ _ _ h => h
      case hw169 => rfl
      case hy169 => (intro w hSw; (try dsimp only at hSw); go_simp; try with_reducible rfl)
      (try simp only [Act.put, List.setIfInBounds_toArray, List.set_cons_zero, List.set_cons_succ])
      refine wpAnyH_take (i := 19) (oi := ?oi170) (v := ?v170) ?hi170 (by kernel_rfl) (by kernel_rfl) (by kernel_rfl) ?hQ170 (Or.inl ⟨?hw170, ?hy170⟩) (by assumption) ?rest170
      case hi170 => (simp only [List.getElem?_toArray, List.getElem?_cons_succ, List.getElem?_cons_zero]; rfl)
      case hQ170 => exact fun _ _ _ h => h
      case hw170 => rfl
      case hy170 => (intro w hSw; (try dsimp only at hSw); go_simp; try with_reducible rfl)
      (try simp only [Act.put, List.setIfInBounds_toArray, List.set_cons_zero, List.set_cons_succ])
      refine wpAnyH_take (i := 20) (oi := ?oi171) (v := ?v171) ?hi171 (by kernel_rfl) (by kernel_rfl) (by kernel_rfl) ?hQ171 (Or.inl ⟨?hw171, ?hy171⟩) (by assumption) ?rest171
      case hi171 => (simp only [List.getElem?_toArray, List.getElem?_cons_succ, List.getElem?_cons_zero]; rfl)
      case hQ171 => exact fun _ _ _ h => h
      case hw171 => rfl
      case hy171 => (intro w hSw; (try dsimp only at hSw); go_simp; try with_reducible rfl)
      (try simp only [Act.put, List.setIfInBounds_toArray, List.set_cons_zero, List.set_cons_succ])
      refine wpAnyH_take (i := 21) (oi := ?oi172) (v := ?v172) ?hi172 (by kernel_rfl) (by kernel_rfl) (by kernel_rfl) ?hQ172 (Or.inl ⟨?hw172, ?hy172⟩) (by assumption) ?rest172
      case hi172 => (simp only [List.getElem?_toArray, List.getElem?_cons_succ, List.getElem?_cons_zero]; rfl)
      case hQ172 => exact fun _ _ _ h => h
      case hw172 => rfl
      case hy172 => (intro w hSw; (try dsimp only at hSw); go_simp; try with_reducible rfl)
      (try simp only [Act.put, List.setIfInBounds_toArray, List.set_cons_zero, List.set_cons_succ])
      refine wpAnyH_take (i := 23) (oi := ?oi173) (v := ?v173) ?hi173 (by kernel_rfl) (by kernel_rfl) (by kernel_rfl) ?hQ173 (Or.inl ⟨?hw173, ?hy173⟩) (by assumption) ?rest173
      case hi173 => (simp only [List.getElem?_toArray, List.getElem?_cons_succ, List.getElem?_cons_zero]; rfl)
      case hQ173 => exact fun _ _ _ h => h
      case hw173 => rfl
      case hy173 => (intro w hSw; (try dsimp only at hSw); go_simp; try with_reducible rfl)
      (try simp only [Act.put, List.setIfInBounds_toArray, List.set_cons_zero, List.set_cons_succ])
      refine wpAnyH_ready (rs := [22]) (by kernel_rfl) (by simp) ?_
      refine AllReadyH.cons (o := ?o174) ?ho174 (fun K hK => ?st174) AllReadyH.nil
      case ho174 => (simp only [List.getElem?_toArray, List.getElem?_cons_succ, List.getElem?_cons_zero]; rfl)
      go_simp
      refine (Q1.out _ (And.left hHeld)).mono ?_; rintro e wE ⟨rfl, hbE⟩
      refine hK.out _ _ ?_ (fun hHeld => ?_)
      · (try dsimp only); (first | exact HKA.out _ _ (by assumption) | exact HK.out _ _ (by assumption) hbA | exact HK.out _ _ (by assumption) hbB | exact HK.out _ _ (by assumption) hbC | exact HK.out _ _ (by assumption) hbD | exact HK.out _ _ (by assumption) hbE | exact HK.out _ _ (by assumption) hbF | exact HK.out _ _ (by assumption) hbG)
      clear hK K
      (try simp only [Act.put, List.setIfInBounds_toArray, List.set_cons_zero, List.set_cons_succ])
      refine wpAnyH_ready (rs := [24]) (by kernel_rfl) (by simp) ?_
      refine AllReadyH.cons (o := ?o175) ?ho175 (fun K hK => ?st175) AllReadyH.nil
      case ho175 => (simp only [List.getElem?_toArray, List.getElem?_cons_succ, List.getElem?_cons_zero]; rfl)
      go_simp
      refine (Q2.out _ (And.left hHeld)).mono ?_; rintro e wF ⟨rfl, hbF⟩
      refine hK.out _ _ ?_ (fun hHeld => ?_)
      · (try dsimp only); (first | exact HKA.out _ _ (by assumption) | exact HK.out _ _ (by assumption) hbA | exact HK.out _ _ (by assumption) hbB | exact HK.out _ _ (by assumption) hbC | exact HK.out _ _ (by assumption) hbD | exact HK.out _ _ (by assumption) hbE | exact HK.out _ _ (by assumption) hbF | exact HK.out _ _ (by assumption) hbG)
      clear hK K
      (try simp only [Act.put, List.setIfInBounds_toArray, List.set_cons_zero, List.set_cons_succ])
      refine wpAnyH_take (i := 25) (oi := ?oi176) (v := ?v176) ?hi176 (by kernel_rfl) (by kernel_rfl) (by kernel_rfl) ?hQ176 (Or.inl ⟨?hw176, ?hy176⟩) (by assumption) ?rest176
      case hi176 => (simp only [List.getElem?_toArray, List.getElem?_cons_succ, List.getElem?_cons_zero]; rfl)
      case hQ176 => exact fun _ _ _ h => h
      case hw176 => rfl
      case hy176 => (intro w hSw; (try dsimp only at hSw); go_simp; try with_reducible rfl)
      (try simp only [Act.put, List.setIfInBounds_toArray, List.set_cons_zero, List.set_cons_succ])
      refine wpAnyH_take (i := 26) (oi := ?oi177) (v := ?v177) ?hi177 (by kernel_rfl) (by kernel_rfl) (by kernel_rfl) ?hQ177 (Or.inl ⟨?hw177, ?hy177⟩) (by assumption) ?rest177
      case hi177 => (simp only [List.getElem?_toArray, List.getElem?_cons_succ, List.getElem?_cons_zero]; rfl)
      case hQ177 => exact fun _ _ _ h => h
      case hw177 => rfl
      case hy177 => (intro w hSw; (try dsimp only at hSw); go_simp; try with_reducible rfl)
      (try simp only [Act.put, List.setIfInBounds_toArray, List.set_cons_zero, List.set_cons_succ])
      refine wpAnyH_take (i := 27) (oi := ?oi178) (v := ?v178) ?hi178 (by kernel_rfl) (by kernel_rfl) (by kernel_rfl) ?hQ178 (Or.inl ⟨?hw178, ?hy178⟩) (by assumption) ?rest178
      case hi178 => (simp only [List.getElem?_toArray, List.getElem?_cons_succ, List.getElem?_cons_zero]; rfl)
      case hQ178 => exact fun _ _ _ h => h
      case hw178 => rfl
      case hy178 => (intro w hSw; (try dsimp only at hSw); go_simp; try with_reducible rfl)
      (try simp only [Act.put, List.setIfInBounds_toArray, List.set_cons_zero, List.set_cons_succ])
      refine wpAnyH_take (i := 28) (oi := ?oi179) (v := ?v179) ?hi179 (by kernel_rfl) (by kernel_rfl) (by kernel_rfl) ?hQ179 (Or.inl ⟨?hw179, ?hy179⟩) (by assumption) ?rest179
      case hi179 => (simp only [List.getElem?_toArray, List.getElem?_cons_succ, List.getElem?_cons_zero]; rfl)
      case hQ179 => exact fun _ _ _ h => h
      case hw179 => rfl
      case hy179 => (intro w hSw; (try dsimp only at hSw); go_simp; try with_reducible rfl)
      (try simp only [Act.put, List.setIfInBounds_toArray, List.set_cons_zero, List.set_cons_succ])
      refine wpAnyH_ready (rs := [29]) (by kernel_rfl) (by simp) ?_
      refine AllReadyH.cons (o := ?o180) ?ho180 (fun K hK => ?st180) AllReadyH.nil
      case ho180 => (simp only [List.getElem?_toArray, List.getElem?_cons_succ, List.getElem?_cons_zero]; rfl)
      go_simp
      refine (awake4_any _).mono ?_; rintro e wG ⟨rfl, hbG⟩
      refine hK.out _ _ ?_ (fun hHeld => ?_)
      · (try dsimp only); (first | exact HKA.out _ _ (by assumption) | exact HK.out _ _ (by assumption) hbA | exact HK.out _ _ (by assumption) hbB | exact HK.out _ _ (by assumption) hbC | exact HK.out _ _ (by assumption) hbD | exact HK.out _ _ (by assumption) hbE | exact HK.out _ _ (by assumption) hbF | exact HK.out _ _ (by assumption) hbG)
      clear hK K
      (try simp only [Act.put, List.setIfInBounds_toArray, List.set_cons_zero, List.set_cons_succ])
      refine wpAnyH_take (i := 30) (oi := ?oi181) (v := ?v181) ?hi181 (by kernel_rfl) (by kernel_rfl) (by kernel_rfl) ?hQ181 (Or.inl ⟨?hw181, ?hy181⟩) (by assumption) ?rest181
      case hi181 => (simp only [List.getElem?_toArray, List.getElem?_cons_succ, List.getElem?_cons_zero]; rfl)
      case hQ181 => exact fun _ _ _ h => h
      case hw181 => rfl
      case hy181 => (intro w hSw; (try dsimp only at hSw); go_simp; try with_reducible rfl)
      (try simp only [Act.put, List.setIfInBounds_toArray, List.set_cons_zero, List.set_cons_succ])
      refine wpAnyH_take (i := 31) (oi := ?oi182) (v := ?v182) ?hi182 (by kernel_rfl) (by kernel_rfl) (by kernel_rfl) ?hQ182 (Or.inl ⟨?hw182, ?hy182⟩) (by assumption) ?rest182
      case hi182 => (simp only [List.getElem?_toArray, List.getElem?_cons_succ, List.getElem?_cons_zero]; rfl)
      case hQ182 => exact fun _ _ _ h => h
      case hw182 => rfl
      case hy182 => (intro w hSw; (try dsimp only at hSw); go_simp; try with_reducible rfl)
      (try simp only [Act.put, List.setIfInBounds_toArray, List.set_cons_zero, List.set_cons_succ])
      refine wpAnyH_done (by kernel_rfl) ?_ _
      go_wp2
      go_ret
      exact ⟨rfl, HL5.out.trans ((And.left hHeld).mono HL5.out.size)⟩
  · have her2 : (er != 0) = true := by simpa using h0
    clear h0
    refine wp_region_held_drew (S := (fun W => Below wi.heap.size wi W ∧ (W.cell? ⟨w.heap.size, 0, none⟩ = some (.int .i64 v.k) ∧ W.cell? ⟨w.heap.size, 1, none⟩ = some (.int .i64 v.i) ∧ W.cell? ⟨w.heap.size, 2, none⟩ = some (.bool v.b) ∧ W.cell? ⟨w.heap.size, 3, none⟩ = some (.string v.s) ∧ W.cell? ⟨w.heap.size, 4, none⟩ = some (.float .f64 v.n)) ∧ (W.cell? ⟨bx, 0, none⟩ = some (.int .i64 x.k) ∧ W.cell? ⟨bx, 1, none⟩ = some (.int .i64 x.i) ∧ W.cell? ⟨bx, 2, none⟩ = some (.bool x.b) ∧ W.cell? ⟨bx, 3, none⟩ = some (.string x.s) ∧ W.cell? ⟨bx, 4, none⟩ = some (.float .f64 x.n)) ∧ (W.cell? ⟨bz, 0, none⟩ = some (.int .i64 x.k) ∧ W.cell? ⟨bz, 1, none⟩ = some (.int .i64 x.i) ∧ W.cell? ⟨bz, 2, none⟩ = some (.bool x.b) ∧ W.cell? ⟨bz, 3, none⟩ = some (.string x.s) ∧ W.cell? ⟨bz, 4, none⟩ = some (.float .f64 x.n)))) (by kernel_rfl) (hS0) (fun hHeld => ?_)
    refine wpAnyH_take (i := 1) (oi := ?oi1) (v := ?v1) ?hi1 (by kernel_rfl) (by kernel_rfl) (by kernel_rfl) ?hQ1 (Or.inl ⟨?hw1, ?hy1⟩) (by assumption) ?rest1
    case hi1 => (simp only [List.getElem?_toArray, List.getElem?_cons_succ, List.getElem?_cons_zero]; rfl)
    case hQ1 => exact fun _ _ _ h => h
    case hw1 => rfl
    case hy1 => (intro w hSw; (try dsimp only at hSw); go_simp; try with_reducible rfl)
    (try simp only [Act.put, List.setIfInBounds_toArray, List.set_cons_zero, List.set_cons_succ])
    refine wpAnyH_take (i := 4) (oi := ?oi2) (v := ?v2) ?hi2 (by kernel_rfl) (by kernel_rfl) (by kernel_rfl) ?hQ2 (Or.inl ⟨?hw2, ?hy2⟩) (by assumption) ?rest2
    case hi2 => (simp only [List.getElem?_toArray, List.getElem?_cons_succ, List.getElem?_cons_zero]; rfl)
    case hQ2 => exact fun _ _ _ h => h
    case hw2 => rfl
    case hy2 => (intro w hSw; (try dsimp only at hSw); go_simp; try with_reducible rfl)
    (try simp only [Act.put, List.setIfInBounds_toArray, List.set_cons_zero, List.set_cons_succ])
    refine wpAnyH_ready (rs := [0, 3]) (by kernel_rfl) (by simp) ?_
    refine AllReadyH.cons (o := ?o3) ?ho3 (fun K hK => ?st3) (AllReadyH.cons (o := ?o4) ?ho4 (fun K hK => ?st4) AllReadyH.nil)
    case ho3 => (simp only [List.getElem?_toArray, List.getElem?_cons_succ, List.getElem?_cons_zero]; rfl)
    case ho4 => (simp only [List.getElem?_toArray, List.getElem?_cons_succ, List.getElem?_cons_zero]; rfl)
    · go_simp
      refine hK.out _ _ ?_ (fun hHeld => ?_)
      · (try dsimp only); (first | exact HKA.out _ _ (by assumption) | exact HK.out _ _ (by assumption) hbA | exact HK.out _ _ (by assumption) hbB | exact HK.out _ _ (by assumption) hbC | exact HK.out _ _ (by assumption) hbD | exact HK.out _ _ (by assumption) hbE | exact HK.out _ _ (by assumption) hbF | exact HK.out _ _ (by assumption) hbG)
      clear hK K
      (try simp only [Act.put, List.setIfInBounds_toArray, List.set_cons_zero, List.set_cons_succ])
      refine wpAnyH_ready (rs := [2, 3]) (by kernel_rfl) (by simp) ?_
      refine AllReadyH.cons (o := ?o5) ?ho5 (fun K hK => ?st5) (AllReadyH.cons (o := ?o6) ?ho6 (fun K hK => ?st6) AllReadyH.nil)
      case ho5 => (simp only [List.getElem?_toArray, List.getElem?_cons_succ, List.getElem?_cons_zero]; rfl)
      case ho6 => (simp only [List.getElem?_toArray, List.getElem?_cons_succ, List.getElem?_cons_zero]; rfl)
      · go_simp
        refine (E1.out _ _ (by first | exact nine_bs _ | exact nine_one _ _ | (refine Bs.alloc ?_ _; exact nine_bs _))).mono ?_; rintro e wA ⟨vA, rfl, hsA, hbA⟩
        refine hK.out _ _ ?_ (fun hHeld => ?_)
        · (try dsimp only); (first | exact HKA.out _ _ (by assumption) | exact HK.out _ _ (by assumption) hbA | exact HK.out _ _ (by assumption) hbB | exact HK.out _ _ (by assumption) hbC | exact HK.out _ _ (by assumption) hbD | exact HK.out _ _ (by assumption) hbE | exact HK.out _ _ (by assumption) hbF | exact HK.out _ _ (by assumption) hbG)
        clear hK K
        (try simp only [Act.put, List.setIfInBounds_toArray, List.set_cons_zero, List.set_cons_succ])
        refine wpAnyH_ready (rs := [3]) (by kernel_rfl) (by simp) ?_
        refine AllReadyH.cons (o := ?o7) ?ho7 (fun K hK => ?st7) AllReadyH.nil
        case ho7 => (simp only [List.getElem?_toArray, List.getElem?_cons_succ, List.getElem?_cons_zero]; rfl)
        go_simp
        refine hK.out _ _ ?_ (fun hHeld => ?_)
        · (try dsimp only); (first | exact HKA.out _ _ (by assumption) | exact HK.out _ _ (by assumption) hbA | exact HK.out _ _ (by assumption) hbB | exact HK.out _ _ (by assumption) hbC | exact HK.out _ _ (by assumption) hbD | exact HK.out _ _ (by assumption) hbE | exact HK.out _ _ (by assumption) hbF | exact HK.out _ _ (by assumption) hbG)
        clear hK K
        (try simp only [Act.put, List.setIfInBounds_toArray, List.set_cons_zero, List.set_cons_succ])
        refine wpAnyH_ready (rs := [5]) (by kernel_rfl) (by simp) ?_
        refine AllReadyH.cons (o := ?o8) ?ho8 (fun K hK => ?st8) AllReadyH.nil
        case ho8 => (simp only [List.getElem?_toArray, List.getElem?_cons_succ, List.getElem?_cons_zero]; rfl)
        go_simp
        refine (E2.out _ _ (by first | exact nine_bs _ | (refine Bs.below ?_ hbA (Nat.le_refl _); first | exact nine_bs _ | exact nine_one _ _ | (refine Bs.alloc ?_ _; exact nine_bs _)))).mono ?_; rintro e wB ⟨vB, rfl, hsB, hbB⟩
        refine hK.out _ _ ?_ (fun hHeld => ?_)
        · (try dsimp only); (first | exact HKA.out _ _ (by assumption) | exact HK.out _ _ (by assumption) hbA | exact HK.out _ _ (by assumption) hbB | exact HK.out _ _ (by assumption) hbC | exact HK.out _ _ (by assumption) hbD | exact HK.out _ _ (by assumption) hbE | exact HK.out _ _ (by assumption) hbF | exact HK.out _ _ (by assumption) hbG)
        clear hK K
        (try simp only [Act.put, List.setIfInBounds_toArray, List.set_cons_zero, List.set_cons_succ])
        refine wpAnyH_ready (rs := [6]) (by kernel_rfl) (by simp) ?_
        refine AllReadyH.cons (o := ?o9) ?ho9 (fun K hK => ?st9) AllReadyH.nil
        case ho9 => (simp only [List.getElem?_toArray, List.getElem?_cons_succ, List.getElem?_cons_zero]; rfl)
        go_simp
        refine (E4.out _ _ _ out (by first | exact hsA.below hbB (Nat.le_refl _) | exact (hsA.alloc _).below hbB (Nat.le_refl _)) hsB).mono ?_; rintro e wC ⟨rfl, hbC⟩
        refine hK.out _ _ ?_ (fun hHeld => ?_)
        · (try dsimp only); (first | exact HKA.out _ _ (by assumption) | exact HK.out _ _ (by assumption) hbA | exact HK.out _ _ (by assumption) hbB | exact HK.out _ _ (by assumption) hbC | exact HK.out _ _ (by assumption) hbD | exact HK.out _ _ (by assumption) hbE | exact HK.out _ _ (by assumption) hbF | exact HK.out _ _ (by assumption) hbG)
        clear hK K
        (try simp only [Act.put, List.setIfInBounds_toArray, List.set_cons_zero, List.set_cons_succ])
        refine wpAnyH_take (i := 7) (oi := ?oi10) (v := ?v10) ?hi10 (by kernel_rfl) (by kernel_rfl) (by kernel_rfl) ?hQ10 (Or.inl ⟨?hw10, ?hy10⟩) (by assumption) ?rest10
        case hi10 => (simp only [List.getElem?_toArray, List.getElem?_cons_succ, List.getElem?_cons_zero]; rfl)
        case hQ10 => exact fun _ _ _ h => h
        case hw10 => rfl
        case hy10 => (intro w hSw; (try dsimp only at hSw); go_simp; try with_reducible rfl)
        (try simp only [Act.put, List.setIfInBounds_toArray, List.set_cons_zero, List.set_cons_succ])
        refine wpAnyH_take (i := 8) (oi := ?oi11) (v := ?v11) ?hi11 (by kernel_rfl) (by kernel_rfl) (by kernel_rfl) ?hQ11 (Or.inl ⟨?hw11, ?hy11⟩) (by assumption) ?rest11
        case hi11 => (simp only [List.getElem?_toArray, List.getElem?_cons_succ, List.getElem?_cons_zero]; rfl)
        case hQ11 => exact fun _ _ _ h => h
        case hw11 => rfl
        case hy11 => (intro w hSw; (try dsimp only at hSw); go_simp; try with_reducible rfl)
        (try simp only [Act.put, List.setIfInBounds_toArray, List.set_cons_zero, List.set_cons_succ])
        refine wpAnyH_take (i := 9) (oi := ?oi12) (v := ?v12) ?hi12 (by kernel_rfl) (by kernel_rfl) (by kernel_rfl) ?hQ12 (Or.inl ⟨?hw12, ?hy12⟩) (by assumption) ?rest12
        case hi12 => (simp only [List.getElem?_toArray, List.getElem?_cons_succ, List.getElem?_cons_zero]; rfl)
        case hQ12 => exact fun _ _ _ h => h
        case hw12 => rfl
        case hy12 => (intro w hSw; (try dsimp only at hSw); go_simp; try with_reducible rfl)
        (try simp only [Act.put, List.setIfInBounds_toArray, List.set_cons_zero, List.set_cons_succ])
        refine wpAnyH_ready (rs := [10]) (by kernel_rfl) (by simp) ?_
        refine AllReadyH.cons (o := ?o13) ?ho13 (fun K hK => ?st13) AllReadyH.nil
        case ho13 => (simp only [List.getElem?_toArray, List.getElem?_cons_succ, List.getElem?_cons_zero]; rfl)
        go_simp
        refine (E3.out _ x).mono ?_; rintro e wD ⟨rfl, hbD⟩
        refine hK.out _ _ ?_ (fun hHeld => ?_)
        · (try dsimp only); (first | exact HKA.out _ _ (by assumption) | exact HK.out _ _ (by assumption) hbA | exact HK.out _ _ (by assumption) hbB | exact HK.out _ _ (by assumption) hbC | exact HK.out _ _ (by assumption) hbD | exact HK.out _ _ (by assumption) hbE | exact HK.out _ _ (by assumption) hbF | exact HK.out _ _ (by assumption) hbG)
        clear hK K
        (try simp only [Act.put, List.setIfInBounds_toArray, List.set_cons_zero, List.set_cons_succ])
        refine wpAnyH_take (i := 11) (oi := ?oi14) (v := ?v14) ?hi14 (by kernel_rfl) (by kernel_rfl) (by kernel_rfl) ?hQ14 (Or.inl ⟨?hw14, ?hy14⟩) (by assumption) ?rest14
        case hi14 => (simp only [List.getElem?_toArray, List.getElem?_cons_succ, List.getElem?_cons_zero]; rfl)
        case hQ14 => exact fun _ _ _ h => h
        case hw14 => rfl
        case hy14 => (intro w hSw; (try dsimp only at hSw); go_simp; try with_reducible rfl)
        (try simp only [Act.put, List.setIfInBounds_toArray, List.set_cons_zero, List.set_cons_succ])
        refine wpAnyH_take (i := 12) (oi := ?oi15) (v := ?v15) ?hi15 (by kernel_rfl) (by kernel_rfl) (by kernel_rfl) ?hQ15 (Or.inl ⟨?hw15, ?hy15⟩) (by assumption) ?rest15
        case hi15 => (simp only [List.getElem?_toArray, List.getElem?_cons_succ, List.getElem?_cons_zero]; rfl)
        case hQ15 => exact fun _ _ _ h => h
        case hw15 => rfl
        case hy15 => (intro w hSw; (try dsimp only at hSw); go_simp; try with_reducible rfl)
        (try simp only [Act.put, List.setIfInBounds_toArray, List.set_cons_zero, List.set_cons_succ])
        refine wpAnyH_take (i := 13) (oi := ?oi16) (v := ?v16) ?hi16 (by kernel_rfl) (by kernel_rfl) (by kernel_rfl) ?hQ16 (Or.inl ⟨?hw16, ?hy16⟩) (by assumption) ?rest16
        case hi16 => (simp only [List.getElem?_toArray, List.getElem?_cons_succ, List.getElem?_cons_zero]; rfl)
        case hQ16 => exact fun _ _ _ h => h
        case hw16 => rfl
        case hy16 => (intro w hSw; (try dsimp only at hSw); go_simp; try with_reducible rfl)
        (try simp only [Act.put, List.setIfInBounds_toArray, List.set_cons_zero, List.set_cons_succ])
        refine wpAnyH_take (i := 14) (oi := ?oi17) (v := ?v17) ?hi17 (by kernel_rfl) (by kernel_rfl) (by kernel_rfl) ?hQ17 (Or.inl ⟨?hw17, ?hy17⟩) (by assumption) ?rest17
        case hi17 => (simp only [List.getElem?_toArray, List.getElem?_cons_succ, List.getElem?_cons_zero]; rfl)
        case hQ17 => exact fun _ _ _ h => h
        case hw17 => rfl
        case hy17 => (intro w hSw; (try dsimp only at hSw); go_simp; try with_reducible rfl)
        (try simp only [Act.put, List.setIfInBounds_toArray, List.set_cons_zero, List.set_cons_succ])
        refine wpAnyH_take (i := 15) (oi := ?oi18) (v := ?v18) ?hi18 (by kernel_rfl) (by kernel_rfl) (by kernel_rfl) ?hQ18 (Or.inl ⟨?hw18, ?hy18⟩) (by assumption) ?rest18
        case hi18 => (simp only [List.getElem?_toArray, List.getElem?_cons_succ, List.getElem?_cons_zero]; rfl)
        case hQ18 => exact fun _ _ _ h => h
        case hw18 => rfl
        case hy18 => (intro w hSw; (try dsimp only at hSw); go_simp; try with_reducible rfl)
        (try simp only [Act.put, List.setIfInBounds_toArray, List.set_cons_zero, List.set_cons_succ])
        refine wpAnyH_take (i := 16) (oi := ?oi19) (v := ?v19) ?hi19 (by kernel_rfl) (by kernel_rfl) (by kernel_rfl) ?hQ19 (Or.inl ⟨?hw19, ?hy19⟩) (by assumption) ?rest19
        case hi19 => (simp only [List.getElem?_toArray, List.getElem?_cons_succ, List.getElem?_cons_zero]; rfl)
        case hQ19 => exact fun _ _ _ h => h
        case hw19 => rfl
        case hy19 => (intro w hSw; (try dsimp only at hSw); go_simp; try with_reducible rfl)
        (try simp only [Act.put, List.setIfInBounds_toArray, List.set_cons_zero, List.set_cons_succ])
        refine wpAnyH_take (i := 17) (oi := ?oi20) (v := ?v20) ?hi20 (by kernel_rfl) (by kernel_rfl) (by kernel_rfl) ?hQ20 (Or.inl ⟨?hw20, ?hy20⟩) (by assumption) ?rest20
        case hi20 => (simp only [List.getElem?_toArray, List.getElem?_cons_succ, List.getElem?_cons_zero]; rfl)
        case hQ20 => exact fun _ _ _ h => h
        case hw20 => rfl
        case hy20 => (intro w hSw; (try dsimp only at hSw); go_simp; try with_reducible rfl)
        (try simp only [Act.put, List.setIfInBounds_toArray, List.set_cons_zero, List.set_cons_succ])
        refine wpAnyH_take (i := 18) (oi := ?oi21) (v := ?v21) ?hi21 (by kernel_rfl) (by kernel_rfl) (by kernel_rfl) ?hQ21 (Or.inl ⟨?hw21, ?hy21⟩) (by assumption) ?rest21
        case hi21 => (simp only [List.getElem?_toArray, List.getElem?_cons_succ, List.getElem?_cons_zero]; rfl)
        case hQ21 => exact fun _ _ _ h => h
        case hw21 => rfl
        case hy21 => (intro w hSw; (try dsimp only at hSw); go_simp; try with_reducible rfl)
        (try simp only [Act.put, List.setIfInBounds_toArray, List.set_cons_zero, List.set_cons_succ])
        refine wpAnyH_take (i := 19) (oi := ?oi22) (v := ?v22) ?hi22 (by kernel_rfl) (by kernel_rfl) (by kernel_rfl) ?hQ22 (Or.inl ⟨?hw22, ?hy22⟩) (by assumption) ?rest22
        case hi22 => (simp only [List.getElem?_toArray, List.getElem?_cons_succ, List.getElem?_cons_zero]; rfl)
        case hQ22 => exact fun _ _ _ h => h
        case hw22 => rfl
        case hy22 => (intro w hSw; (try dsimp only at hSw); go_simp; try with_reducible rfl)
        (try simp only [Act.put, List.setIfInBounds_toArray, List.set_cons_zero, List.set_cons_succ])
        refine wpAnyH_take (i := 20) (oi := ?oi23) (v := ?v23) ?hi23 (by kernel_rfl) (by kernel_rfl) (by kernel_rfl) ?hQ23 (Or.inl ⟨?hw23, ?hy23⟩) (by assumption) ?rest23
        case hi23 => (simp only [List.getElem?_toArray, List.getElem?_cons_succ, List.getElem?_cons_zero]; rfl)
        case hQ23 => exact fun _ _ _ h => h
        case hw23 => rfl
        case hy23 => (intro w hSw; (try dsimp only at hSw); go_simp; try with_reducible rfl)
        (try simp only [Act.put, List.setIfInBounds_toArray, List.set_cons_zero, List.set_cons_succ])
        refine wpAnyH_take (i := 21) (oi := ?oi24) (v := undef) ?hi24 (by kernel_rfl) (by kernel_rfl) (by kernel_rfl) ?hQ24 (Or.inr ⟨?hw24, rfl⟩) (by assumption) ?rest24
        case hi24 => (simp only [List.getElem?_toArray, List.getElem?_cons_succ, List.getElem?_cons_zero]; rfl)
        case hQ24 => exact fun _ _ _ h => h
        case hw24 => rfl
        (try simp only [Act.put, List.setIfInBounds_toArray, List.set_cons_zero, List.set_cons_succ])
        refine wpAnyH_take (i := 22) (oi := ?oi25) (v := undef) ?hi25 (by kernel_rfl) (by kernel_rfl) (by kernel_rfl) ?hQ25 (Or.inr ⟨?hw25, rfl⟩) (by assumption) ?rest25
        case hi25 => (simp only [List.getElem?_toArray, List.getElem?_cons_succ, List.getElem?_cons_zero]; rfl)
        case hQ25 => exact fun _ _ _ h => h
        case hw25 => rfl
        (try simp only [Act.put, List.setIfInBounds_toArray, List.set_cons_zero, List.set_cons_succ])
        refine wpAnyH_take (i := 23) (oi := ?oi26) (v := undef) ?hi26 (by kernel_rfl) (by kernel_rfl) (by kernel_rfl) ?hQ26 (Or.inr ⟨?hw26, rfl⟩) (by assumption) ?rest26
        case hi26 => (simp only [List.getElem?_toArray, List.getElem?_cons_succ, List.getElem?_cons_zero]; rfl)
        case hQ26 => exact fun _ _ _ h => h
        case hw26 => rfl
        (try simp only [Act.put, List.setIfInBounds_toArray, List.set_cons_zero, List.set_cons_succ])
        refine wpAnyH_take (i := 24) (oi := ?oi27) (v := undef) ?hi27 (by kernel_rfl) (by kernel_rfl) (by kernel_rfl) ?hQ27 (Or.inr ⟨?hw27, rfl⟩) (by assumption) ?rest27
        case hi27 => (simp only [List.getElem?_toArray, List.getElem?_cons_succ, List.getElem?_cons_zero]; rfl)
        case hQ27 => exact fun _ _ _ h => h
        case hw27 => rfl
        (try simp only [Act.put, List.setIfInBounds_toArray, List.set_cons_zero, List.set_cons_succ])
        refine wpAnyH_take (i := 25) (oi := ?oi28) (v := undef) ?hi28 (by kernel_rfl) (by kernel_rfl) (by kernel_rfl) ?hQ28 (Or.inr ⟨?hw28, rfl⟩) (by assumption) ?rest28
        case hi28 => (simp only [List.getElem?_toArray, List.getElem?_cons_succ, List.getElem?_cons_zero]; rfl)
        case hQ28 => exact fun _ _ _ h => h
        case hw28 => rfl
        (try simp only [Act.put, List.setIfInBounds_toArray, List.set_cons_zero, List.set_cons_succ])
        refine wpAnyH_take (i := 26) (oi := ?oi29) (v := ?v29) ?hi29 (by kernel_rfl) (by kernel_rfl) (by kernel_rfl) ?hQ29 (Or.inl ⟨?hw29, ?hy29⟩) (by assumption) ?rest29
        case hi29 => (simp only [List.getElem?_toArray, List.getElem?_cons_succ, List.getElem?_cons_zero]; rfl)
        case hQ29 => exact fun _ _ _ h => h
        case hw29 => rfl
        case hy29 => (intro w hSw; (try dsimp only at hSw); go_simp; try with_reducible rfl)
        (try simp only [Act.put, List.setIfInBounds_toArray, List.set_cons_zero, List.set_cons_succ])
        refine wpAnyH_take (i := 27) (oi := ?oi30) (v := ?v30) ?hi30 (by kernel_rfl) (by kernel_rfl) (by kernel_rfl) ?hQ30 (Or.inl ⟨?hw30, ?hy30⟩) (by assumption) ?rest30
        case hi30 => (simp only [List.getElem?_toArray, List.getElem?_cons_succ, List.getElem?_cons_zero]; rfl)
        case hQ30 => exact fun _ _ _ h => h
        case hw30 => rfl
        case hy30 => (intro w hSw; (try dsimp only at hSw); go_simp; try with_reducible rfl)
        (try simp only [Act.put, List.setIfInBounds_toArray, List.set_cons_zero, List.set_cons_succ])
        refine wpAnyH_take (i := 28) (oi := ?oi31) (v := ?v31) ?hi31 (by kernel_rfl) (by kernel_rfl) (by kernel_rfl) ?hQ31 (Or.inl ⟨?hw31, ?hy31⟩) (by assumption) ?rest31
        case hi31 => (simp only [List.getElem?_toArray, List.getElem?_cons_succ, List.getElem?_cons_zero]; rfl)
        case hQ31 => exact fun _ _ _ h => h
        case hw31 => rfl
        case hy31 => (intro w hSw; (try dsimp only at hSw); go_simp; try with_reducible rfl)
        (try simp only [Act.put, List.setIfInBounds_toArray, List.set_cons_zero, List.set_cons_succ])
        refine wpAnyH_ready (rs := [29]) (by kernel_rfl) (by simp) ?_
        refine AllReadyH.cons (o := ?o32) ?ho32 (fun K hK => ?st32) AllReadyH.nil
        case ho32 => (simp only [List.getElem?_toArray, List.getElem?_cons_succ, List.getElem?_cons_zero]; rfl)
        go_simp
        refine (awake4_any _).mono ?_; rintro e wG ⟨rfl, hbG⟩
        refine hK.out _ _ ?_ (fun hHeld => ?_)
        · (try dsimp only); (first | exact HKA.out _ _ (by assumption) | exact HK.out _ _ (by assumption) hbA | exact HK.out _ _ (by assumption) hbB | exact HK.out _ _ (by assumption) hbC | exact HK.out _ _ (by assumption) hbD | exact HK.out _ _ (by assumption) hbE | exact HK.out _ _ (by assumption) hbF | exact HK.out _ _ (by assumption) hbG)
        clear hK K
        (try simp only [Act.put, List.setIfInBounds_toArray, List.set_cons_zero, List.set_cons_succ])
        refine wpAnyH_take (i := 30) (oi := ?oi33) (v := ?v33) ?hi33 (by kernel_rfl) (by kernel_rfl) (by kernel_rfl) ?hQ33 (Or.inl ⟨?hw33, ?hy33⟩) (by assumption) ?rest33
        case hi33 => (simp only [List.getElem?_toArray, List.getElem?_cons_succ, List.getElem?_cons_zero]; rfl)
        case hQ33 => exact fun _ _ _ h => h
        case hw33 => rfl
        case hy33 => (intro w hSw; (try dsimp only at hSw); go_simp; try with_reducible rfl)
        (try simp only [Act.put, List.setIfInBounds_toArray, List.set_cons_zero, List.set_cons_succ])
        refine wpAnyH_take (i := 31) (oi := ?oi34) (v := ?v34) ?hi34 (by kernel_rfl) (by kernel_rfl) (by kernel_rfl) ?hQ34 (Or.inl ⟨?hw34, ?hy34⟩) (by assumption) ?rest34
        case hi34 => (simp only [List.getElem?_toArray, List.getElem?_cons_succ, List.getElem?_cons_zero]; rfl)
        case hQ34 => exact fun _ _ _ h => h
        case hw34 => rfl
        case hy34 => (intro w hSw; (try dsimp only at hSw); go_simp; try with_reducible rfl)
        (try simp only [Act.put, List.setIfInBounds_toArray, List.set_cons_zero, List.set_cons_succ])
        refine wpAnyH_done (by kernel_rfl) ?_ _
        go_wp2
        go_ret
        exact ⟨rfl, HL5.out.trans ((And.left hHeld).mono HL5.out.size)⟩
      · go_simp
        refine hK.out _ _ ?_ (fun hHeld => ?_)
        · (try dsimp only); (first | exact HKA.out _ _ (by assumption) | exact HK.out _ _ (by assumption) hbA | exact HK.out _ _ (by assumption) hbB | exact HK.out _ _ (by assumption) hbC | exact HK.out _ _ (by assumption) hbD | exact HK.out _ _ (by assumption) hbE | exact HK.out _ _ (by assumption) hbF | exact HK.out _ _ (by assumption) hbG)
        clear hK K
        (try simp only [Act.put, List.setIfInBounds_toArray, List.set_cons_zero, List.set_cons_succ])
        refine wpAnyH_ready (rs := [2]) (by kernel_rfl) (by simp) ?_
        refine AllReadyH.cons (o := ?o35) ?ho35 (fun K hK => ?st35) AllReadyH.nil
        case ho35 => (simp only [List.getElem?_toArray, List.getElem?_cons_succ, List.getElem?_cons_zero]; rfl)
        go_simp
        refine (E1.out _ _ (by first | exact nine_bs _ | exact nine_one _ _ | (refine Bs.alloc ?_ _; exact nine_bs _))).mono ?_; rintro e wA ⟨vA, rfl, hsA, hbA⟩
        refine hK.out _ _ ?_ (fun hHeld => ?_)
        · (try dsimp only); (first | exact HKA.out _ _ (by assumption) | exact HK.out _ _ (by assumption) hbA | exact HK.out _ _ (by assumption) hbB | exact HK.out _ _ (by assumption) hbC | exact HK.out _ _ (by assumption) hbD | exact HK.out _ _ (by assumption) hbE | exact HK.out _ _ (by assumption) hbF | exact HK.out _ _ (by assumption) hbG)
        clear hK K
        (try simp only [Act.put, List.setIfInBounds_toArray, List.set_cons_zero, List.set_cons_succ])
        refine wpAnyH_ready (rs := [5]) (by kernel_rfl) (by simp) ?_
        refine AllReadyH.cons (o := ?o36) ?ho36 (fun K hK => ?st36) AllReadyH.nil
        case ho36 => (simp only [List.getElem?_toArray, List.getElem?_cons_succ, List.getElem?_cons_zero]; rfl)
        go_simp
        refine (E2.out _ _ (by first | exact nine_bs _ | (refine Bs.below ?_ hbA (Nat.le_refl _); first | exact nine_bs _ | exact nine_one _ _ | (refine Bs.alloc ?_ _; exact nine_bs _)))).mono ?_; rintro e wB ⟨vB, rfl, hsB, hbB⟩
        refine hK.out _ _ ?_ (fun hHeld => ?_)
        · (try dsimp only); (first | exact HKA.out _ _ (by assumption) | exact HK.out _ _ (by assumption) hbA | exact HK.out _ _ (by assumption) hbB | exact HK.out _ _ (by assumption) hbC | exact HK.out _ _ (by assumption) hbD | exact HK.out _ _ (by assumption) hbE | exact HK.out _ _ (by assumption) hbF | exact HK.out _ _ (by assumption) hbG)
        clear hK K
        (try simp only [Act.put, List.setIfInBounds_toArray, List.set_cons_zero, List.set_cons_succ])
        refine wpAnyH_ready (rs := [6]) (by kernel_rfl) (by simp) ?_
        refine AllReadyH.cons (o := ?o37) ?ho37 (fun K hK => ?st37) AllReadyH.nil
        case ho37 => (simp only [List.getElem?_toArray, List.getElem?_cons_succ, List.getElem?_cons_zero]; rfl)
        go_simp
        refine (E4.out _ _ _ out (by first | exact hsA.below hbB (Nat.le_refl _) | exact (hsA.alloc _).below hbB (Nat.le_refl _)) hsB).mono ?_; rintro e wC ⟨rfl, hbC⟩
        refine hK.out _ _ ?_ (fun hHeld => ?_)
        · (try dsimp only); (first | exact HKA.out _ _ (by assumption) | exact HK.out _ _ (by assumption) hbA | exact HK.out _ _ (by assumption) hbB | exact HK.out _ _ (by assumption) hbC | exact HK.out _ _ (by assumption) hbD | exact HK.out _ _ (by assumption) hbE | exact HK.out _ _ (by assumption) hbF | exact HK.out _ _ (by assumption) hbG)
        clear hK K
        (try simp only [Act.put, List.setIfInBounds_toArray, List.set_cons_zero, List.set_cons_succ])
        refine wpAnyH_take (i := 7) (oi := ?oi38) (v := ?v38) ?hi38 (by kernel_rfl) (by kernel_rfl) (by kernel_rfl) ?hQ38 (Or.inl ⟨?hw38, ?hy38⟩) (by assumption) ?rest38
        case hi38 => (simp only [List.getElem?_toArray, List.getElem?_cons_succ, List.getElem?_cons_zero]; rfl)
        case hQ38 => exact fun _ _ _ h => h
        case hw38 => rfl
        case hy38 => (intro w hSw; (try dsimp only at hSw); go_simp; try with_reducible rfl)
        (try simp only [Act.put, List.setIfInBounds_toArray, List.set_cons_zero, List.set_cons_succ])
        refine wpAnyH_take (i := 8) (oi := ?oi39) (v := ?v39) ?hi39 (by kernel_rfl) (by kernel_rfl) (by kernel_rfl) ?hQ39 (Or.inl ⟨?hw39, ?hy39⟩) (by assumption) ?rest39
        case hi39 => (simp only [List.getElem?_toArray, List.getElem?_cons_succ, List.getElem?_cons_zero]; rfl)
        case hQ39 => exact fun _ _ _ h => h
        case hw39 => rfl
        case hy39 => (intro w hSw; (try dsimp only at hSw); go_simp; try with_reducible rfl)
        (try simp only [Act.put, List.setIfInBounds_toArray, List.set_cons_zero, List.set_cons_succ])
        refine wpAnyH_take (i := 9) (oi := ?oi40) (v := ?v40) ?hi40 (by kernel_rfl) (by kernel_rfl) (by kernel_rfl) ?hQ40 (Or.inl ⟨?hw40, ?hy40⟩) (by assumption) ?rest40
        case hi40 => (simp only [List.getElem?_toArray, List.getElem?_cons_succ, List.getElem?_cons_zero]; rfl)
        case hQ40 => exact fun _ _ _ h => h
        case hw40 => rfl
        case hy40 => (intro w hSw; (try dsimp only at hSw); go_simp; try with_reducible rfl)
        (try simp only [Act.put, List.setIfInBounds_toArray, List.set_cons_zero, List.set_cons_succ])
        refine wpAnyH_ready (rs := [10]) (by kernel_rfl) (by simp) ?_
        refine AllReadyH.cons (o := ?o41) ?ho41 (fun K hK => ?st41) AllReadyH.nil
        case ho41 => (simp only [List.getElem?_toArray, List.getElem?_cons_succ, List.getElem?_cons_zero]; rfl)
        go_simp
        refine (E3.out _ x).mono ?_; rintro e wD ⟨rfl, hbD⟩
        refine hK.out _ _ ?_ (fun hHeld => ?_)
        · (try dsimp only); (first | exact HKA.out _ _ (by assumption) | exact HK.out _ _ (by assumption) hbA | exact HK.out _ _ (by assumption) hbB | exact HK.out _ _ (by assumption) hbC | exact HK.out _ _ (by assumption) hbD | exact HK.out _ _ (by assumption) hbE | exact HK.out _ _ (by assumption) hbF | exact HK.out _ _ (by assumption) hbG)
        clear hK K
        (try simp only [Act.put, List.setIfInBounds_toArray, List.set_cons_zero, List.set_cons_succ])
        refine wpAnyH_take (i := 11) (oi := ?oi42) (v := ?v42) ?hi42 (by kernel_rfl) (by kernel_rfl) (by kernel_rfl) ?hQ42 (Or.inl ⟨?hw42, ?hy42⟩) (by assumption) ?rest42
        case hi42 => (simp only [List.getElem?_toArray, List.getElem?_cons_succ, List.getElem?_cons_zero]; rfl)
        case hQ42 => exact fun _ _ _ h => h
        case hw42 => rfl
        case hy42 => (intro w hSw; (try dsimp only at hSw); go_simp; try with_reducible rfl)
        (try simp only [Act.put, List.setIfInBounds_toArray, List.set_cons_zero, List.set_cons_succ])
        refine wpAnyH_take (i := 12) (oi := ?oi43) (v := ?v43) ?hi43 (by kernel_rfl) (by kernel_rfl) (by kernel_rfl) ?hQ43 (Or.inl ⟨?hw43, ?hy43⟩) (by assumption) ?rest43
        case hi43 => (simp only [List.getElem?_toArray, List.getElem?_cons_succ, List.getElem?_cons_zero]; rfl)
        case hQ43 => exact fun _ _ _ h => h
        case hw43 => rfl
        case hy43 => (intro w hSw; (try dsimp only at hSw); go_simp; try with_reducible rfl)
        (try simp only [Act.put, List.setIfInBounds_toArray, List.set_cons_zero, List.set_cons_succ])
        refine wpAnyH_take (i := 13) (oi := ?oi44) (v := ?v44) ?hi44 (by kernel_rfl) (by kernel_rfl) (by kernel_rfl) ?hQ44 (Or.inl ⟨?hw44, ?hy44⟩) (by assumption) ?rest44
        case hi44 => (simp only [List.getElem?_toArray, List.getElem?_cons_succ, List.getElem?_cons_zero]; rfl)
        case hQ44 => exact fun _ _ _ h => h
        case hw44 => rfl
        case hy44 => (intro w hSw; (try dsimp only at hSw); go_simp; try with_reducible rfl)
        (try simp only [Act.put, List.setIfInBounds_toArray, List.set_cons_zero, List.set_cons_succ])
        refine wpAnyH_take (i := 14) (oi := ?oi45) (v := ?v45) ?hi45 (by kernel_rfl) (by kernel_rfl) (by kernel_rfl) ?hQ45 (Or.inl ⟨?hw45, ?hy45⟩) (by assumption) ?rest45
        case hi45 => (simp only [List.getElem?_toArray, List.getElem?_cons_succ, List.getElem?_cons_zero]; rfl)
        case hQ45 => exact fun _ _ _ h => h
        case hw45 => rfl
        case hy45 => (intro w hSw; (try dsimp only at hSw); go_simp; try with_reducible rfl)
        (try simp only [Act.put, List.setIfInBounds_toArray, List.set_cons_zero, List.set_cons_succ])
        refine wpAnyH_take (i := 15) (oi := ?oi46) (v := ?v46) ?hi46 (by kernel_rfl) (by kernel_rfl) (by kernel_rfl) ?hQ46 (Or.inl ⟨?hw46, ?hy46⟩) (by assumption) ?rest46
        case hi46 => (simp only [List.getElem?_toArray, List.getElem?_cons_succ, List.getElem?_cons_zero]; rfl)
        case hQ46 => exact fun _ _ _ h => h
        case hw46 => rfl
        case hy46 => (intro w hSw; (try dsimp only at hSw); go_simp; try with_reducible rfl)
        (try simp only [Act.put, List.setIfInBounds_toArray, List.set_cons_zero, List.set_cons_succ])
        refine wpAnyH_take (i := 16) (oi := ?oi47) (v := ?v47) ?hi47 (by kernel_rfl) (by kernel_rfl) (by kernel_rfl) ?hQ47 (Or.inl ⟨?hw47, ?hy47⟩) (by assumption) ?rest47
        case hi47 => (simp only [List.getElem?_toArray, List.getElem?_cons_succ, List.getElem?_cons_zero]; rfl)
        case hQ47 => exact fun _ _ _ h => h
        case hw47 => rfl
        case hy47 => (intro w hSw; (try dsimp only at hSw); go_simp; try with_reducible rfl)
        (try simp only [Act.put, List.setIfInBounds_toArray, List.set_cons_zero, List.set_cons_succ])
        refine wpAnyH_take (i := 17) (oi := ?oi48) (v := ?v48) ?hi48 (by kernel_rfl) (by kernel_rfl) (by kernel_rfl) ?hQ48 (Or.inl ⟨?hw48, ?hy48⟩) (by assumption) ?rest48
        case hi48 => (simp only [List.getElem?_toArray, List.getElem?_cons_succ, List.getElem?_cons_zero]; rfl)
        case hQ48 => exact fun _ _ _ h => h
        case hw48 => rfl
        case hy48 => (intro w hSw; (try dsimp only at hSw); go_simp; try with_reducible rfl)
        (try simp only [Act.put, List.setIfInBounds_toArray, List.set_cons_zero, List.set_cons_succ])
        refine wpAnyH_take (i := 18) (oi := ?oi49) (v := ?v49) ?hi49 (by kernel_rfl) (by kernel_rfl) (by kernel_rfl) ?hQ49 (Or.inl ⟨?hw49, ?hy49⟩) (by assumption) ?rest49
        case hi49 => (simp only [List.getElem?_toArray, List.getElem?_cons_succ, List.getElem?_cons_zero]; rfl)
        case hQ49 => exact fun _ _ _ h => h
        case hw49 => rfl
        case hy49 => (intro w hSw; (try dsimp only at hSw); go_simp; try with_reducible rfl)
        (try simp only [Act.put, List.setIfInBounds_toArray, List.set_cons_zero, List.set_cons_succ])
        refine wpAnyH_take (i := 19) (oi := ?oi50) (v := ?v50) ?hi50 (by kernel_rfl) (by kernel_rfl) (by kernel_rfl) ?hQ50 (Or.inl ⟨?hw50, ?hy50⟩) (by assumption) ?rest50
        case hi50 => (simp only [List.getElem?_toArray, List.getElem?_cons_succ, List.getElem?_cons_zero]; rfl)
        case hQ50 => exact fun _ _ _ h => h
        case hw50 => rfl
        case hy50 => (intro w hSw; (try dsimp only at hSw); go_simp; try with_reducible rfl)
        (try simp only [Act.put, List.setIfInBounds_toArray, List.set_cons_zero, List.set_cons_succ])
        refine wpAnyH_take (i := 20) (oi := ?oi51) (v := ?v51) ?hi51 (by kernel_rfl) (by kernel_rfl) (by kernel_rfl) ?hQ51 (Or.inl ⟨?hw51, ?hy51⟩) (by assumption) ?rest51
        case hi51 => (simp only [List.getElem?_toArray, List.getElem?_cons_succ, List.getElem?_cons_zero]; rfl)
        case hQ51 => exact fun _ _ _ h => h
        case hw51 => rfl
        case hy51 => (intro w hSw; (try dsimp only at hSw); go_simp; try with_reducible rfl)
        (try simp only [Act.put, List.setIfInBounds_toArray, List.set_cons_zero, List.set_cons_succ])
        refine wpAnyH_take (i := 21) (oi := ?oi52) (v := undef) ?hi52 (by kernel_rfl) (by kernel_rfl) (by kernel_rfl) ?hQ52 (Or.inr ⟨?hw52, rfl⟩) (by assumption) ?rest52
        case hi52 => (simp only [List.getElem?_toArray, List.getElem?_cons_succ, List.getElem?_cons_zero]; rfl)
        case hQ52 => exact fun _ _ _ h => h
        case hw52 => rfl
        (try simp only [Act.put, List.setIfInBounds_toArray, List.set_cons_zero, List.set_cons_succ])
        refine wpAnyH_take (i := 22) (oi := ?oi53) (v := undef) ?hi53 (by kernel_rfl) (by kernel_rfl) (by kernel_rfl) ?hQ53 (Or.inr ⟨?hw53, rfl⟩) (by assumption) ?rest53
        case hi53 => (simp only [List.getElem?_toArray, List.getElem?_cons_succ, List.getElem?_cons_zero]; rfl)
        case hQ53 => exact fun _ _ _ h => h
        case hw53 => rfl
        (try simp only [Act.put, List.setIfInBounds_toArray, List.set_cons_zero, List.set_cons_succ])
        refine wpAnyH_take (i := 23) (oi := ?oi54) (v := undef) ?hi54 (by kernel_rfl) (by kernel_rfl) (by kernel_rfl) ?hQ54 (Or.inr ⟨?hw54, rfl⟩) (by assumption) ?rest54
        case hi54 => (simp only [List.getElem?_toArray, List.getElem?_cons_succ, List.getElem?_cons_zero]; rfl)
        case hQ54 => exact fun _ _ _ h => h
        case hw54 => rfl
        (try simp only [Act.put, List.setIfInBounds_toArray, List.set_cons_zero, List.set_cons_succ])
        refine wpAnyH_take (i := 24) (oi := ?oi55) (v := undef) ?hi55 (by kernel_rfl) (by kernel_rfl) (by kernel_rfl) ?hQ55 (Or.inr ⟨?hw55, rfl⟩) (by assumption) ?rest55
        case hi55 => (simp only [List.getElem?_toArray, List.getElem?_cons_succ, List.getElem?_cons_zero]; rfl)
        case hQ55 => exact fun _ _ _ h => h
        case hw55 => rfl
        (try simp only [Act.put, List.setIfInBounds_toArray, List.set_cons_zero, List.set_cons_succ])
        refine wpAnyH_take (i := 25) (oi := ?oi56) (v := undef) ?hi56 (by kernel_rfl) (by kernel_rfl) (by kernel_rfl) ?hQ56 (Or.inr ⟨?hw56, rfl⟩) (by assumption) ?rest56
        case hi56 => (simp only [List.getElem?_toArray, List.getElem?_cons_succ, List.getElem?_cons_zero]; rfl)
        case hQ56 => exact fun _ _ _ h => h
        case hw56 => rfl
        (try simp only [Act.put, List.setIfInBounds_toArray, List.set_cons_zero, List.set_cons_succ])
        refine wpAnyH_take (i := 26) (oi := ?oi57) (v := ?v57) ?hi57 (by kernel_rfl) (by kernel_rfl) (by kernel_rfl) ?hQ57 (Or.inl ⟨?hw57, ?hy57⟩) (by assumption) ?rest57
        case hi57 => (simp only [List.getElem?_toArray, List.getElem?_cons_succ, List.getElem?_cons_zero]; rfl)
        case hQ57 => exact fun _ _ _ h => h
        case hw57 => rfl
        case hy57 => (intro w hSw; (try dsimp only at hSw); go_simp; try with_reducible rfl)
        (try simp only [Act.put, List.setIfInBounds_toArray, List.set_cons_zero, List.set_cons_succ])
        refine wpAnyH_take (i := 27) (oi := ?oi58) (v := ?v58) ?hi58 (by kernel_rfl) (by kernel_rfl) (by kernel_rfl) ?hQ58 (Or.inl ⟨?hw58, ?hy58⟩) (by assumption) ?rest58
        case hi58 => (simp only [List.getElem?_toArray, List.getElem?_cons_succ, List.getElem?_cons_zero]; rfl)
        case hQ58 => exact fun _ _ _ h => h
        case hw58 => rfl
        case hy58 => (intro w hSw; (try dsimp only at hSw); go_simp; try with_reducible rfl)
        (try simp only [Act.put, List.setIfInBounds_toArray, List.set_cons_zero, List.set_cons_succ])
        refine wpAnyH_take (i := 28) (oi := ?oi59) (v := ?v59) ?hi59 (by kernel_rfl) (by kernel_rfl) (by kernel_rfl) ?hQ59 (Or.inl ⟨?hw59, ?hy59⟩) (by assumption) ?rest59
        case hi59 => (simp only [List.getElem?_toArray, List.getElem?_cons_succ, List.getElem?_cons_zero]; rfl)
        case hQ59 => exact fun _ _ _ h => h
        case hw59 => rfl
        case hy59 => (intro w hSw; (try dsimp only at hSw); go_simp; try with_reducible rfl)
        (try simp only [Act.put, List.setIfInBounds_toArray, List.set_cons_zero, List.set_cons_succ])
        refine wpAnyH_ready (rs := [29]) (by kernel_rfl) (by simp) ?_
        refine AllReadyH.cons (o := ?o60) ?ho60 (fun K hK => ?st60) AllReadyH.nil
        case ho60 => (simp only [List.getElem?_toArray, List.getElem?_cons_succ, List.getElem?_cons_zero]; rfl)
        go_simp
        refine (awake4_any _).mono ?_; rintro e wG ⟨rfl, hbG⟩
        refine hK.out _ _ ?_ (fun hHeld => ?_)
        · (try dsimp only); (first | exact HKA.out _ _ (by assumption) | exact HK.out _ _ (by assumption) hbA | exact HK.out _ _ (by assumption) hbB | exact HK.out _ _ (by assumption) hbC | exact HK.out _ _ (by assumption) hbD | exact HK.out _ _ (by assumption) hbE | exact HK.out _ _ (by assumption) hbF | exact HK.out _ _ (by assumption) hbG)
        clear hK K
        (try simp only [Act.put, List.setIfInBounds_toArray, List.set_cons_zero, List.set_cons_succ])
        refine wpAnyH_take (i := 30) (oi := ?oi61) (v := ?v61) ?hi61 (by kernel_rfl) (by kernel_rfl) (by kernel_rfl) ?hQ61 (Or.inl ⟨?hw61, ?hy61⟩) (by assumption) ?rest61
        case hi61 => (simp only [List.getElem?_toArray, List.getElem?_cons_succ, List.getElem?_cons_zero]; rfl)
        case hQ61 => exact fun _ _ _ h => h
        case hw61 => rfl
        case hy61 => (intro w hSw; (try dsimp only at hSw); go_simp; try with_reducible rfl)
        (try simp only [Act.put, List.setIfInBounds_toArray, List.set_cons_zero, List.set_cons_succ])
        refine wpAnyH_take (i := 31) (oi := ?oi62) (v := ?v62) ?hi62 (by kernel_rfl) (by kernel_rfl) (by kernel_rfl) ?hQ62 (Or.inl ⟨?hw62, ?hy62⟩) (by assumption) ?rest62
        case hi62 => (simp only [List.getElem?_toArray, List.getElem?_cons_succ, List.getElem?_cons_zero]; rfl)
        case hQ62 => exact fun _ _ _ h => h
        case hw62 => rfl
        case hy62 => (intro w hSw; (try dsimp only at hSw); go_simp; try with_reducible rfl)
        (try simp only [Act.put, List.setIfInBounds_toArray, List.set_cons_zero, List.set_cons_succ])
        refine wpAnyH_done (by kernel_rfl) ?_ _
        go_wp2
        go_ret
        exact ⟨rfl, HL5.out.trans ((And.left hHeld).mono HL5.out.size)⟩
    · go_simp
      refine hK.out _ _ ?_ (fun hHeld => ?_)
      · (try dsimp only); (first | exact HKA.out _ _ (by assumption) | exact HK.out _ _ (by assumption) hbA | exact HK.out _ _ (by assumption) hbB | exact HK.out _ _ (by assumption) hbC | exact HK.out _ _ (by assumption) hbD | exact HK.out _ _ (by assumption) hbE | exact HK.out _ _ (by assumption) hbF | exact HK.out _ _ (by assumption) hbG)
      clear hK K
      (try simp only [Act.put, List.setIfInBounds_toArray, List.set_cons_zero, List.set_cons_succ])
      refine wpAnyH_ready (rs := [0]) (by kernel_rfl) (by simp) ?_
      refine AllReadyH.cons (o := ?o63) ?ho63 (fun K hK => ?st63) AllReadyH.nil
      case ho63 => (simp only [List.getElem?_toArray, List.getElem?_cons_succ, List.getElem?_cons_zero]; rfl)
      go_simp
      refine hK.out _ _ ?_ (fun hHeld => ?_)
      · (try dsimp only); (first | exact HKA.out _ _ (by assumption) | exact HK.out _ _ (by assumption) hbA | exact HK.out _ _ (by assumption) hbB | exact HK.out _ _ (by assumption) hbC | exact HK.out _ _ (by assumption) hbD | exact HK.out _ _ (by assumption) hbE | exact HK.out _ _ (by assumption) hbF | exact HK.out _ _ (by assumption) hbG)
      clear hK K
      (try simp only [Act.put, List.setIfInBounds_toArray, List.set_cons_zero, List.set_cons_succ])
      refine wpAnyH_ready (rs := [2]) (by kernel_rfl) (by simp) ?_
      refine AllReadyH.cons (o := ?o64) ?ho64 (fun K hK => ?st64) AllReadyH.nil
      case ho64 => (simp only [List.getElem?_toArray, List.getElem?_cons_succ, List.getElem?_cons_zero]; rfl)
      go_simp
      refine (E1.out _ _ (by first | exact nine_bs _ | exact nine_one _ _ | (refine Bs.alloc ?_ _; exact nine_bs _))).mono ?_; rintro e wA ⟨vA, rfl, hsA, hbA⟩
      refine hK.out _ _ ?_ (fun hHeld => ?_)
      · (try dsimp only); (first | exact HKA.out _ _ (by assumption) | exact HK.out _ _ (by assumption) hbA | exact HK.out _ _ (by assumption) hbB | exact HK.out _ _ (by assumption) hbC | exact HK.out _ _ (by assumption) hbD | exact HK.out _ _ (by assumption) hbE | exact HK.out _ _ (by assumption) hbF | exact HK.out _ _ (by assumption) hbG)
      clear hK K
      (try simp only [Act.put, List.setIfInBounds_toArray, List.set_cons_zero, List.set_cons_succ])
      refine wpAnyH_ready (rs := [5]) (by kernel_rfl) (by simp) ?_
      refine AllReadyH.cons (o := ?o65) ?ho65 (fun K hK => ?st65) AllReadyH.nil
      case ho65 => (simp only [List.getElem?_toArray, List.getElem?_cons_succ, List.getElem?_cons_zero]; rfl)
      go_simp
      refine (E2.out _ _ (by first | exact nine_bs _ | (refine Bs.below ?_ hbA (Nat.le_refl _); first | exact nine_bs _ | exact nine_one _ _ | (refine Bs.alloc ?_ _; exact nine_bs _)))).mono ?_; rintro e wB ⟨vB, rfl, hsB, hbB⟩
      refine hK.out _ _ ?_ (fun hHeld => ?_)
      · (try dsimp only); (first | exact HKA.out _ _ (by assumption) | exact HK.out _ _ (by assumption) hbA | exact HK.out _ _ (by assumption) hbB | exact HK.out _ _ (by assumption) hbC | exact HK.out _ _ (by assumption) hbD | exact HK.out _ _ (by assumption) hbE | exact HK.out _ _ (by assumption) hbF | exact HK.out _ _ (by assumption) hbG)
      clear hK K
      (try simp only [Act.put, List.setIfInBounds_toArray, List.set_cons_zero, List.set_cons_succ])
      refine wpAnyH_ready (rs := [6]) (by kernel_rfl) (by simp) ?_
      refine AllReadyH.cons (o := ?o66) ?ho66 (fun K hK => ?st66) AllReadyH.nil
      case ho66 => (simp only [List.getElem?_toArray, List.getElem?_cons_succ, List.getElem?_cons_zero]; rfl)
      go_simp
      refine (E4.out _ _ _ out (by first | exact hsA.below hbB (Nat.le_refl _) | exact (hsA.alloc _).below hbB (Nat.le_refl _)) hsB).mono ?_; rintro e wC ⟨rfl, hbC⟩
      refine hK.out _ _ ?_ (fun hHeld => ?_)
      · (try dsimp only); (first | exact HKA.out _ _ (by assumption) | exact HK.out _ _ (by assumption) hbA | exact HK.out _ _ (by assumption) hbB | exact HK.out _ _ (by assumption) hbC | exact HK.out _ _ (by assumption) hbD | exact HK.out _ _ (by assumption) hbE | exact HK.out _ _ (by assumption) hbF | exact HK.out _ _ (by assumption) hbG)
      clear hK K
      (try simp only [Act.put, List.setIfInBounds_toArray, List.set_cons_zero, List.set_cons_succ])
      refine wpAnyH_take (i := 7) (oi := ?oi67) (v := ?v67) ?hi67 (by kernel_rfl) (by kernel_rfl) (by kernel_rfl) ?hQ67 (Or.inl ⟨?hw67, ?hy67⟩) (by assumption) ?rest67
      case hi67 => (simp only [List.getElem?_toArray, List.getElem?_cons_succ, List.getElem?_cons_zero]; rfl)
      case hQ67 => exact fun _ _ _ h => h
      case hw67 => rfl
      case hy67 => (intro w hSw; (try dsimp only at hSw); go_simp; try with_reducible rfl)
      (try simp only [Act.put, List.setIfInBounds_toArray, List.set_cons_zero, List.set_cons_succ])
      refine wpAnyH_take (i := 8) (oi := ?oi68) (v := ?v68) ?hi68 (by kernel_rfl) (by kernel_rfl) (by kernel_rfl) ?hQ68 (Or.inl ⟨?hw68, ?hy68⟩) (by assumption) ?rest68
      case hi68 => (simp only [List.getElem?_toArray, List.getElem?_cons_succ, List.getElem?_cons_zero]; rfl)
      case hQ68 => exact fun _ _ _ h => h
      case hw68 => rfl
      case hy68 => (intro w hSw; (try dsimp only at hSw); go_simp; try with_reducible rfl)
      (try simp only [Act.put, List.setIfInBounds_toArray, List.set_cons_zero, List.set_cons_succ])
      refine wpAnyH_take (i := 9) (oi := ?oi69) (v := ?v69) ?hi69 (by kernel_rfl) (by kernel_rfl) (by kernel_rfl) ?hQ69 (Or.inl ⟨?hw69, ?hy69⟩) (by assumption) ?rest69
      case hi69 => (simp only [List.getElem?_toArray, List.getElem?_cons_succ, List.getElem?_cons_zero]; rfl)
      case hQ69 => exact fun _ _ _ h => h
      case hw69 => rfl
      case hy69 => (intro w hSw; (try dsimp only at hSw); go_simp; try with_reducible rfl)
      (try simp only [Act.put, List.setIfInBounds_toArray, List.set_cons_zero, List.set_cons_succ])
      refine wpAnyH_ready (rs := [10]) (by kernel_rfl) (by simp) ?_
      refine AllReadyH.cons (o := ?o70) ?ho70 (fun K hK => ?st70) AllReadyH.nil
      case ho70 => (simp only [List.getElem?_toArray, List.getElem?_cons_succ, List.getElem?_cons_zero]; rfl)
      go_simp
      refine (E3.out _ x).mono ?_; rintro e wD ⟨rfl, hbD⟩
      refine hK.out _ _ ?_ (fun hHeld => ?_)
      · (try dsimp only); (first | exact HKA.out _ _ (by assumption) | exact HK.out _ _ (by assumption) hbA | exact HK.out _ _ (by assumption) hbB | exact HK.out _ _ (by assumption) hbC | exact HK.out _ _ (by assumption) hbD | exact HK.out _ _ (by assumption) hbE | exact HK.out _ _ (by assumption) hbF | exact HK.out _ _ (by assumption) hbG)
      clear hK K
      (try simp only [Act.put, List.setIfInBounds_toArray, List.set_cons_zero, List.set_cons_succ])
      refine wpAnyH_take (i := 11) (oi := ?oi71) (v := ?v71) ?hi71 (by kernel_rfl) (by kernel_rfl) (by kernel_rfl) ?hQ71 (Or.inl ⟨?hw71, ?hy71⟩) (by assumption) ?rest71
      case hi71 => (simp only [List.getElem?_toArray, List.getElem?_cons_succ, List.getElem?_cons_zero]; rfl)
      case hQ71 => exact fun _ _ _ h => h
      case hw71 => rfl
      case hy71 => (intro w hSw; (try dsimp only at hSw); go_simp; try with_reducible rfl)
      (try simp only [Act.put, List.setIfInBounds_toArray, List.set_cons_zero, List.set_cons_succ])
      refine wpAnyH_take (i := 12) (oi := ?oi72) (v := ?v72) ?hi72 (by kernel_rfl) (by kernel_rfl) (by kernel_rfl) ?hQ72 (Or.inl ⟨?hw72, ?hy72⟩) (by assumption) ?rest72
      case hi72 => (simp only [List.getElem?_toArray, List.getElem?_cons_succ, List.getElem?_cons_zero]; rfl)
      case hQ72 => exact fun _ _ _ h => h
      case hw72 => rfl
      case hy72 => (intro w hSw; (try dsimp only at hSw); go_simp; try with_reducible rfl)
      (try simp only [Act.put, List.setIfInBounds_toArray, List.set_cons_zero, List.set_cons_succ])
      refine wpAnyH_take (i := 13) (oi := ?oi73) (v := ?v73) ?hi73 (by kernel_rfl) (by kernel_rfl) (by kernel_rfl) ?hQ73 (Or.inl ⟨?hw73, ?hy73⟩) (by assumption) ?rest73
      case hi73 => (simp only [List.getElem?_toArray, List.getElem?_cons_succ, List.getElem?_cons_zero]; rfl)
      case hQ73 => exact fun _ _ _ h => h
      case hw73 => rfl
      case hy73 => (intro w hSw; (try dsimp only at hSw); go_simp; try with_reducible rfl)
      (try simp only [Act.put, List.setIfInBounds_toArray, List.set_cons_zero, List.set_cons_succ])
      refine wpAnyH_take (i := 14) (oi := ?oi74) (v := ?v74) ?hi74 (by kernel_rfl) (by kernel_rfl) (by kernel_rfl) ?hQ74 (Or.inl ⟨?hw74, ?hy74⟩) (by assumption) ?rest74
      case hi74 => (simp only [List.getElem?_toArray, List.getElem?_cons_succ, List.getElem?_cons_zero]; rfl)
      case hQ74 => exact fun _ _ _ h => h
      case hw74 => rfl
      case hy74 => (intro w hSw; (try dsimp only at hSw); go_simp; try with_reducible rfl)
      (try simp only [Act.put, List.setIfInBounds_toArray, List.set_cons_zero, List.set_cons_succ])
      refine wpAnyH_take (i := 15) (oi := ?oi75) (v := ?v75) ?hi75 (by kernel_rfl) (by kernel_rfl) (by kernel_rfl) ?hQ75 (Or.inl ⟨?hw75, ?hy75⟩) (by assumption) ?rest75
      case hi75 => (simp only [List.getElem?_toArray, List.getElem?_cons_succ, List.getElem?_cons_zero]; rfl)
      case hQ75 => exact fun _ _ _ h => h
      case hw75 => rfl
      case hy75 => (intro w hSw; (try dsimp only at hSw); go_simp; try with_reducible rfl)
      (try simp only [Act.put, List.setIfInBounds_toArray, List.set_cons_zero, List.set_cons_succ])
      refine wpAnyH_take (i := 16) (oi := ?oi76) (v := ?v76) ?hi76 (by kernel_rfl) (by kernel_rfl) (by kernel_rfl) ?hQ76 (Or.inl ⟨?hw76, ?hy76⟩) (by assumption) ?rest76
      case hi76 => (simp only [List.getElem?_toArray, List.getElem?_cons_succ, List.getElem?_cons_zero]; rfl)
      case hQ76 => exact fun _ _ _ h => h
      case hw76 => rfl
      case hy76 => (intro w hSw; (try dsimp only at hSw); go_simp; try with_reducible rfl)
      (try simp only [Act.put, List.setIfInBounds_toArray, List.set_cons_zero, List.set_cons_succ])
      refine wpAnyH_take (i := 17) (oi := ?oi77) (v := ?v77) ?hi77 (by kernel_rfl) (by kernel_rfl) (by kernel_rfl) ?hQ77 (Or.inl ⟨?hw77, ?hy77⟩) (by assumption) ?rest77
      case hi77 => (simp only [List.getElem?_toArray, List.getElem?_cons_succ, List.getElem?_cons_zero]; rfl)
      case hQ77 => exact fun _ _ _ h => h
      case hw77 => rfl
      case hy77 => (intro w hSw; (try dsimp only at hSw); go_simp; try with_reducible rfl)
      (try simp only [Act.put, List.setIfInBounds_toArray, List.set_cons_zero, List.set_cons_succ])
      refine wpAnyH_take (i := 18) (oi := ?oi78) (v := ?v78) ?hi78 (by kernel_rfl) (by kernel_rfl) (by kernel_rfl) ?hQ78 (Or.inl ⟨?hw78, ?hy78⟩) (by assumption) ?rest78
      case hi78 => (simp only [List.getElem?_toArray, List.getElem?_cons_succ, List.getElem?_cons_zero]; rfl)
      case hQ78 => exact fun _ _ _ h => h
      case hw78 => rfl
      case hy78 => (intro w hSw; (try dsimp only at hSw); go_simp; try with_reducible rfl)
      (try simp only [Act.put, List.setIfInBounds_toArray, List.set_cons_zero, List.set_cons_succ])
      refine wpAnyH_take (i := 19) (oi := ?oi79) (v := ?v79) ?hi79 (by kernel_rfl) (by kernel_rfl) (by kernel_rfl) ?hQ79 (Or.inl ⟨?hw79, ?hy79⟩) (by assumption) ?rest79
      case hi79 => (simp only [List.getElem?_toArray, List.getElem?_cons_succ, List.getElem?_cons_zero]; rfl)
      case hQ79 => exact fun _ _ _ h => h
      case hw79 => rfl
      case hy79 => (intro w hSw; (try dsimp only at hSw); go_simp; try with_reducible rfl)
      (try simp only [Act.put, List.setIfInBounds_toArray, List.set_cons_zero, List.set_cons_succ])
      refine wpAnyH_take (i := 20) (oi := ?oi80) (v := ?v80) ?hi80 (by kernel_rfl) (by kernel_rfl) (by kernel_rfl) ?hQ80 (Or.inl ⟨?hw80, ?hy80⟩) (by assumption) ?rest80
      case hi80 => (simp only [List.getElem?_toArray, List.getElem?_cons_succ, List.getElem?_cons_zero]; rfl)
      case hQ80 => exact fun _ _ _ h => h
      case hw80 => rfl
      case hy80 => (intro w hSw; (try dsimp only at hSw); go_simp; try with_reducible rfl)
      (try simp only [Act.put, List.setIfInBounds_toArray, List.set_cons_zero, List.set_cons_succ])
      refine wpAnyH_take (i := 21) (oi := ?oi81) (v := undef) ?hi81 (by kernel_rfl) (by kernel_rfl) (by kernel_rfl) ?hQ81 (Or.inr ⟨?hw81, rfl⟩) (by assumption) ?rest81
      case hi81 => (simp only [List.getElem?_toArray, List.getElem?_cons_succ, List.getElem?_cons_zero]; rfl)
      case hQ81 => exact fun _ _ _ h => h
      case hw81 => rfl
      (try simp only [Act.put, List.setIfInBounds_toArray, List.set_cons_zero, List.set_cons_succ])
      refine wpAnyH_take (i := 22) (oi := ?oi82) (v := undef) ?hi82 (by kernel_rfl) (by kernel_rfl) (by kernel_rfl) ?hQ82 (Or.inr ⟨?hw82, rfl⟩) (by assumption) ?rest82
      case hi82 => (simp only [List.getElem?_toArray, List.getElem?_cons_succ, List.getElem?_cons_zero]; rfl)
      case hQ82 => exact fun _ _ _ h => h
      case hw82 => rfl
      (try simp only [Act.put, List.setIfInBounds_toArray, List.set_cons_zero, List.set_cons_succ])
      refine wpAnyH_take (i := 23) (oi := ?oi83) (v := undef) ?hi83 (by kernel_rfl) (by kernel_rfl) (by kernel_rfl) ?hQ83 (Or.inr ⟨?hw83, rfl⟩) (by assumption) ?rest83
      case hi83 => (simp only [List.getElem?_toArray, List.getElem?_cons_succ, List.getElem?_cons_zero]; rfl)
      case hQ83 => exact fun _ _ _ h => h
      case hw83 => rfl
      (try simp only [Act.put, List.setIfInBounds_toArray, List.set_cons_zero, List.set_cons_succ])
      refine wpAnyH_take (i := 24) (oi := ?oi84) (v := undef) ?hi84 (by kernel_rfl) (by kernel_rfl) (by kernel_rfl) ?hQ84 (Or.inr ⟨?hw84, rfl⟩) (by assumption) ?rest84
      case hi84 => (simp only [List.getElem?_toArray, List.getElem?_cons_succ, List.getElem?_cons_zero]; rfl)
      case hQ84 => exact fun _ _ _ h => h
      case hw84 => rfl
      (try simp only [Act.put, List.setIfInBounds_toArray, List.set_cons_zero, List.set_cons_succ])
      refine wpAnyH_take (i := 25) (oi := ?oi85) (v := undef) ?hi85 (by kernel_rfl) (by kernel_rfl) (by kernel_rfl) ?hQ85 (Or.inr ⟨?hw85, rfl⟩) (by assumption) ?rest85
      case hi85 => (simp only [List.getElem?_toArray, List.getElem?_cons_succ, List.getElem?_cons_zero]; rfl)
      case hQ85 => exact fun _ _ _ h => h
      case hw85 => rfl
      (try simp only [Act.put, List.setIfInBounds_toArray, List.set_cons_zero, List.set_cons_succ])
      refine wpAnyH_take (i := 26) (oi := ?oi86) (v := ?v86) ?hi86 (by kernel_rfl) (by kernel_rfl) (by kernel_rfl) ?hQ86 (Or.inl ⟨?hw86, ?hy86⟩) (by assumption) ?rest86
      case hi86 => (simp only [List.getElem?_toArray, List.getElem?_cons_succ, List.getElem?_cons_zero]; rfl)
      case hQ86 => exact fun _ _ _ h => h
      case hw86 => rfl
      case hy86 => (intro w hSw; (try dsimp only at hSw); go_simp; try with_reducible rfl)
      (try simp only [Act.put, List.setIfInBounds_toArray, List.set_cons_zero, List.set_cons_succ])
      refine wpAnyH_take (i := 27) (oi := ?oi87) (v := ?v87) ?hi87 (by kernel_rfl) (by kernel_rfl) (by kernel_rfl) ?hQ87 (Or.inl ⟨?hw87, ?hy87⟩) (by assumption) ?rest87
      case hi87 => (simp only [List.getElem?_toArray, List.getElem?_cons_succ, List.getElem?_cons_zero]; rfl)
      case hQ87 => exact fun _ _ _ h => h
      case hw87 => rfl
      case hy87 => (intro w hSw; (try dsimp only at hSw); go_simp; try with_reducible rfl)
      (try simp only [Act.put, List.setIfInBounds_toArray, List.set_cons_zero, List.set_cons_succ])
      refine wpAnyH_take (i := 28) (oi := ?oi88) (v := ?v88) ?hi88 (by kernel_rfl) (by kernel_rfl) (by kernel_rfl) ?hQ88 (Or.inl ⟨?hw88, ?hy88⟩) (by assumption) ?rest88
      case hi88 => (simp only [List.getElem?_toArray, List.getElem?_cons_succ, List.getElem?_cons_zero]; rfl)
      case hQ88 => exact fun _ _ _ h => h
      case hw88 => rfl
      case hy88 => (intro w hSw; (try dsimp only at hSw); go_simp; try with_reducible rfl)
      (try simp only [Act.put, List.setIfInBounds_toArray, List.set_cons_zero, List.set_cons_succ])
      refine wpAnyH_ready (rs := [29]) (by kernel_rfl) (by simp) ?_
      refine AllReadyH.cons (o := ?o89) ?ho89 (fun K hK => ?st89) AllReadyH.nil
      case ho89 => (simp only [List.getElem?_toArray, List.getElem?_cons_succ, List.getElem?_cons_zero]; rfl)
      go_simp
      refine (awake4_any _).mono ?_; rintro e wG ⟨rfl, hbG⟩
      refine hK.out _ _ ?_ (fun hHeld => ?_)
      · (try dsimp only); (first | exact HKA.out _ _ (by assumption) | exact HK.out _ _ (by assumption) hbA | exact HK.out _ _ (by assumption) hbB | exact HK.out _ _ (by assumption) hbC | exact HK.out _ _ (by assumption) hbD | exact HK.out _ _ (by assumption) hbE | exact HK.out _ _ (by assumption) hbF | exact HK.out _ _ (by assumption) hbG)
      clear hK K
      (try simp only [Act.put, List.setIfInBounds_toArray, List.set_cons_zero, List.set_cons_succ])
      refine wpAnyH_take (i := 30) (oi := ?oi90) (v := ?v90) ?hi90 (by kernel_rfl) (by kernel_rfl) (by kernel_rfl) ?hQ90 (Or.inl ⟨?hw90, ?hy90⟩) (by assumption) ?rest90
      case hi90 => (simp only [List.getElem?_toArray, List.getElem?_cons_succ, List.getElem?_cons_zero]; rfl)
      case hQ90 => exact fun _ _ _ h => h
      case hw90 => rfl
      case hy90 => (intro w hSw; (try dsimp only at hSw); go_simp; try with_reducible rfl)
      (try simp only [Act.put, List.setIfInBounds_toArray, List.set_cons_zero, List.set_cons_succ])
      refine wpAnyH_take (i := 31) (oi := ?oi91) (v := ?v91) ?hi91 (by kernel_rfl) (by kernel_rfl) (by kernel_rfl) ?hQ91 (Or.inl ⟨?hw91, ?hy91⟩) (by assumption) ?rest91
      case hi91 => (simp only [List.getElem?_toArray, List.getElem?_cons_succ, List.getElem?_cons_zero]; rfl)
      case hQ91 => exact fun _ _ _ h => h
      case hw91 => rfl
      case hy91 => (intro w hSw; (try dsimp only at hSw); go_simp; try with_reducible rfl)
      (try simp only [Act.put, List.setIfInBounds_toArray, List.set_cons_zero, List.set_cons_succ])
      refine wpAnyH_done (by kernel_rfl) ?_ _
      go_wp2
      go_ret
      exact ⟨rfl, HL5.out.trans ((And.left hHeld).mono HL5.out.size)⟩
end Go.Proofs.Ytlnpolepgdoloaa
