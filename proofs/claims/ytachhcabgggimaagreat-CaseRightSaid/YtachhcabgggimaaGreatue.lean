/- ue: ERChk ERChk2 CRef4 CRef5 KRNew (made by shake.py). -/
import Derived.BigQuiet
import Derived.Deep.RegionLaw
import Derived.Test.YtachhcabgggimaaGreatud
namespace Go.Proofs.YtachhcabgggimaaGreat
open Go.RowKit
set_option linter.unusedVariables false
set_option linter.unusedSimpArgs false
set_option maxRecDepth 20000

set_option maxHeartbeats 2000000 in
theorem rkids_any (op : Int) (w : World) : Calls Tryz.prog 232 #[.int .i64 op] w (VGv (.int .i64 (kidsN op)) w) := by
  have key : ∀ r : Int, kidsN op = r → Calls Tryz.prog 232 #[.int .i64 op] w (VGv (.int .i64 r) w) → Calls Tryz.prog 232 #[.int .i64 op] w (VGv (.int .i64 (kidsN op)) w) := fun r h hc => by rw [h]; exact hc
  rcases Bool.eq_false_or_eq_true (op == 1) with h1 | h1
  · obtain rfl : op = 1 := by simpa using h1
    refine key _ rfl ?_
    clear key
    go_enter Tryz.func232, Tryz.ntmps232
    go_wp2
    go_ret
    exact ⟨rfl, rfl⟩
  rcases Bool.eq_false_or_eq_true (op == 2) with h2 | h2
  · obtain rfl : op = 2 := by simpa using h2
    refine key _ rfl ?_
    clear key
    go_enter Tryz.func232, Tryz.ntmps232
    go_wp2
    go_ret
    exact ⟨rfl, rfl⟩
  rcases Bool.eq_false_or_eq_true (op == 3) with h3 | h3
  · obtain rfl : op = 3 := by simpa using h3
    refine key _ rfl ?_
    clear key
    go_enter Tryz.func232, Tryz.ntmps232
    go_wp2
    go_ret
    exact ⟨rfl, rfl⟩
  rcases Bool.eq_false_or_eq_true (op == 12) with h12 | h12
  · obtain rfl : op = 12 := by simpa using h12
    refine key _ rfl ?_
    clear key
    go_enter Tryz.func232, Tryz.ntmps232
    go_wp2
    go_ret
    exact ⟨rfl, rfl⟩
  rcases Bool.eq_false_or_eq_true (op == 16) with h16 | h16
  · obtain rfl : op = 16 := by simpa using h16
    refine key _ rfl ?_
    clear key
    go_enter Tryz.func232, Tryz.ntmps232
    go_wp2
    go_ret
    exact ⟨rfl, rfl⟩
  rcases Bool.eq_false_or_eq_true (op == 4) with h4 | h4
  · obtain rfl : op = 4 := by simpa using h4
    refine key _ rfl ?_
    clear key
    go_enter Tryz.func232, Tryz.ntmps232
    go_wp2
    go_ret
    exact ⟨rfl, rfl⟩
  rcases Bool.eq_false_or_eq_true (op == 5) with h5 | h5
  · obtain rfl : op = 5 := by simpa using h5
    refine key _ rfl ?_
    clear key
    go_enter Tryz.func232, Tryz.ntmps232
    go_wp2
    go_ret
    exact ⟨rfl, rfl⟩
  rcases Bool.eq_false_or_eq_true (op == 6) with h6 | h6
  · obtain rfl : op = 6 := by simpa using h6
    refine key _ rfl ?_
    clear key
    go_enter Tryz.func232, Tryz.ntmps232
    go_wp2
    go_ret
    exact ⟨rfl, rfl⟩
  rcases Bool.eq_false_or_eq_true (op == 7) with h7 | h7
  · obtain rfl : op = 7 := by simpa using h7
    refine key _ rfl ?_
    clear key
    go_enter Tryz.func232, Tryz.ntmps232
    go_wp2
    go_ret
    exact ⟨rfl, rfl⟩
  rcases Bool.eq_false_or_eq_true (op == 14) with h14 | h14
  · obtain rfl : op = 14 := by simpa using h14
    refine key _ rfl ?_
    clear key
    go_enter Tryz.func232, Tryz.ntmps232
    go_wp2
    go_ret
    exact ⟨rfl, rfl⟩
  rcases Bool.eq_false_or_eq_true (op == 15) with h15 | h15
  · obtain rfl : op = 15 := by simpa using h15
    refine key _ rfl ?_
    clear key
    go_enter Tryz.func232, Tryz.ntmps232
    go_wp2
    go_ret
    exact ⟨rfl, rfl⟩
  rcases Bool.eq_false_or_eq_true (op == 8) with h8 | h8
  · obtain rfl : op = 8 := by simpa using h8
    refine key _ rfl ?_
    clear key
    go_enter Tryz.func232, Tryz.ntmps232
    go_wp2
    go_ret
    exact ⟨rfl, rfl⟩
  rcases Bool.eq_false_or_eq_true (op == 9) with h9 | h9
  · obtain rfl : op = 9 := by simpa using h9
    refine key _ rfl ?_
    clear key
    go_enter Tryz.func232, Tryz.ntmps232
    go_wp2
    go_ret
    exact ⟨rfl, rfl⟩
  rcases Bool.eq_false_or_eq_true (op == 10) with h10 | h10
  · obtain rfl : op = 10 := by simpa using h10
    refine key _ rfl ?_
    clear key
    go_enter Tryz.func232, Tryz.ntmps232
    go_wp2
    go_ret
    exact ⟨rfl, rfl⟩
  rcases Bool.eq_false_or_eq_true (op == 11) with h11 | h11
  · obtain rfl : op = 11 := by simpa using h11
    refine key _ rfl ?_
    clear key
    go_enter Tryz.func232, Tryz.ntmps232
    go_wp2
    go_ret
    exact ⟨rfl, rfl⟩
  rcases Bool.eq_false_or_eq_true (op == 13) with h13 | h13
  · obtain rfl : op = 13 := by simpa using h13
    refine key _ rfl ?_
    clear key
    go_enter Tryz.func232, Tryz.ntmps232
    go_wp2
    go_ret
    exact ⟨rfl, rfl⟩
  refine key (-1) (by unfold kidsN; simp only [beq_eq_false_iff_ne] at *; simp [*]) ?_
  go_enter Tryz.func232, Tryz.ntmps232
  go_wp2
  go_ret
  exact ⟨rfl, rfl⟩
set_option maxHeartbeats 1000000 in
theorem rfield_any (nm : ByteArray) (A : Option Addr) (c : Nat) (fs : List Fd) (w : World) (hf : FdK w A c fs) : Calls Tryz.prog 233 #[.string nm, .slice A fs.length c] w (VGv (.int .i64 (findX nm fs 0)) w) := by
  obtain ⟨h1, h2, h3, h4⟩ := hf
  unfold maxLen at h2
  have hlen : fs.length ≤ 9223372036854775807 := by omega
  have H4 := Lib.hid h4
  clear h4 h1 h2 h3
  go_enter Tryz.func233, Tryz.ntmps233
  go_wp2
  go_loop [5] (fun i => ∃ k : Nat, k ≤ fs.length ∧ i = .int .i64 k ∧ findX nm (fs.drop k) k = findX nm fs 0) (fun i => fs.length - (intOf i).toNat)
  case atStart => exact ⟨0, Nat.zero_le _, rfl, rfl⟩
  case round =>
    obtain ⟨k, hk, rfl, hfi⟩ := hrel
    by_cases hlt : k < fs.length
    · have hltI : (k : Int) < (fs.length : Int) := by omega
      obtain ⟨ad, A', n', c', y, rfl, hbl, hq⟩ := H4.out k hlt
      have q0 := hq.1
      rw [List.drop_eq_getElem_cons hlt, findX] at hfi
      clear hq
      generalize fs[k] = x at *
      rcases hd : (x.name.toList == nm.toList) with _ | _
      all_goals
        rw [hd] at hfi
        have HF := Lib.hid hfi
        clear hfi
        go_wp2
      · go_round
        case rel => exact ⟨k + 1, by omega, by go_num, by have h := HF.out; rwa [if_neg (by decide)] at h⟩
        case measure => simp [intOf]; omega
      · go_ret
        exact ⟨ret_int (by have h := HF.out; simpa using h), rfl⟩
    · obtain rfl : k = fs.length := by omega
      have hltI : ¬ (fs.length : Int) < (fs.length : Int) := by omega
      rw [List.drop_length, findX] at hfi
      have HF := Lib.hid hfi
      clear hfi
      go_wp2
      go_ret
      exact ⟨ret_int HF.out, rfl⟩
def RdI (w : World) (KA : Option Addr) (kc : Nat) (l : List Int) : Prop := Rd w (.slice KA l.length kc) (l.map (Value.int .i64))
theorem RdI.at {w W : World} {KA : Option Addr} {kc : Nat} {l : List Int} (h : RdI w KA kc l) (hb : Below w.heap.size w W) (j : Nat) (hj : j < l.length) : ∃ ad, KA = some ad ∧ W.cell? (ad.add j) = some (.int .i64 l[j]) := by
  obtain ⟨A', c', hv, -, -, -, hx⟩ := h
  injection hv with e1 e2 e3
  subst e1
  obtain ⟨ad, ha, hl, hr⟩ := hx (by intro e; have h0 := congrArg List.length e; simp at h0; subst h0; simp at hj)
  exact ⟨ad, ha, (hb.cell (p := ad.add j) (by rw [block_add]; exact hl)).trans (hr j _ ((List.getElem?_map ..).trans (by simp [hj])))⟩
theorem len1 {α : Type} (l : List α) (h : l.length = 1) : ∃ a, l = [a] := by
  match l, h with
  | [a], _ => exact ⟨a, rfl⟩
theorem len2 {α : Type} (l : List α) (h : l.length = 2) : ∃ a b, l = [a, b] := by
  match l, h with
  | [a, b], _ => exact ⟨a, b, rfl⟩
theorem len3 {α : Type} (l : List α) (h : l.length = 3) : ∃ a b c, l = [a, b, c] := by
  match l, h with
  | [a, b, c], _ => exact ⟨a, b, c, rfl⟩
theorem rkids_same (op : Int) (W : World) : Calls Tryz.prog 232 #[.int .i64 op] W fun e w' => e = .returned (.int .i64 (kidsN op)) ∧ w' = W := (rkids_any op W).mono fun e w' h => ⟨h.1, h.2.symm⟩
set_option maxHeartbeats 16000000 in
theorem rkind_any (e : Ex) (A : Option Addr) (c : Nat) (KA : Option Addr) (kc : Nat) (l : List Int) (FA : Option Addr) (FC : Nat) (fs : List Fd) (w : World) (hk : RdI w KA kc l) (hl : l.length = e.kids.length) (hf : FdK w FA FC fs) :
    Calls Tryz.prog 198 #[agX e.op A e.kids.length c e.name e.val, .slice KA e.kids.length kc, .slice FA fs.length FC] w (VMk (pairII (kindX e l fs)) w) := by
  have hsp0 := kindX_bad e l fs
  have hsp1 := kindX_const e l fs
  have hsp2 := kindX_field e l fs
  have hsp3 := fun h h1 h2 => kindX_op e l fs h h1 h2 hl
  have hfk := formB_kids e
  have hfd : formB e = ((kidsN e.op == (e.kids.length : Int)) && ((e.op == 2 || (e.name.toList == [])) && (e.op == 1 || sameV e.val vZero))) := rfl
  rw [hfd] at hsp0 hsp1 hsp2 hsp3 hfk
  clear hfd
  have hkid := rkids_same e.op
  have hs : ∀ W, Calls Tryz.prog 93 #[agV e.val, agV vZero] W (VMk (.bool (sameV e.val vZero)) W) := fun W => rSame_val e.val vZero W
  have hgd := rGood_val e.val
  have hcx : constX e.val = if goodV e.val then (e.val.k, 0) else (0, 40) := rfl
  have HFK := Lib.hid hf
  have HFLD := Lib.hid (fun W (hb : Below w.heap.size w W) => rfield_any e.name FA FC fs W (hf.below hb (Nat.le_refl _)))
  have HKW := Lib.hid (fun W (hb : Below w.heap.size w W) j (hj : j < l.length) => hk.at hb j hj)
  rw [hcx] at hsp1
  clear hcx hk hf
  generalize kindX e l fs = RES at *
  generalize e.kids.length = n at *
  generalize e.op = op at *
  generalize e.name = nm at *
  generalize e.val = v at *
  generalize goodV v = gv at *
  have HLN := Lib.hid hl
  have HG := Lib.hid hgd
  have HK := Lib.hid hkid
  have HS := Lib.hid hs
  have HSP := Lib.hid (And.intro hsp0 (And.intro hsp1 (And.intro hsp2 (And.intro hsp3 hfk))))
  have HN := Lib.hid (Kid_new w op A n c nm v)
  have HKP := Lib.hid (fun (W W' : World) (h : Below w.heap.size w W ∧ CellsX W w.heap.size op A n c nm v) (hb : Below W.heap.size W W') => (CellsX_keep w W W' op A n c nm v h hb))
  simp only [CellsX] at HKP
  have hen : (nm.toList == (⟨#[]⟩ : ByteArray).toList) = (nm.toList == []) := by rw [empty_list]
  clear hl hgd hkid hs hsp0 hsp1 hsp2 hsp3 hfk
  generalize sameV v vZero = sv at *
  have HB0 := Lib.hid (alloc1 w (bxX op A n c nm v))
  rcases h1 : (kidsN op == (n : Int)) with _ | _
  · have hform : ((kidsN op == (n : Int)) && ((op == 2 || (nm.toList == [])) && (op == 1 || sv))) = false := by rw [h1]; rfl
    have h1n : (kidsN op != (n : Int)) = true := by rw [bne, h1]; rfl
    go_enter Tryz.func198, Tryz.ntmps198
    go_wp2
    go_quiet ((go_at_call 232; exact Calls.quiet_of_same (HK.out _)))
    go_wp2
    have HFIN := Lib.hid (HSP.out.1 hform)
    exact bodyPost_ret (v := pairII (0, 1)) (by simp [results, Tryz.results198, go_sem]) rfl ⟨by rw [HFIN.out], below_drewN HB0.out _⟩
  have h1n : (kidsN op != (n : Int)) = false := by rw [bne, h1]; rfl
  by_cases o2 : op = 2
  · subst o2
    have h2 : ((2 : Int) == 2) = true := rfl
    rcases sv with _ | _
    · have hform : ((kidsN 2 == (n : Int)) && (((2 : Int) == 2 || (nm.toList == [])) && ((2 : Int) == 1 || false))) = false := by simp
      go_enter Tryz.func198, Tryz.ntmps198
      go_wp2
      refine wp_region_held_drew (S := (fun W => Below w.heap.size w W ∧ W.cell? ⟨w.heap.size, 0, none⟩ = some (.int .i64 2) ∧ W.cell? ⟨w.heap.size, 1, none⟩ = some (.slice A n c) ∧ W.cell? ⟨w.heap.size, 2, none⟩ = some (.string nm) ∧ W.cell? ⟨w.heap.size, 3, none⟩ = some (.int .i64 v.k) ∧ W.cell? ⟨w.heap.size, 4, none⟩ = some (.int .i64 v.i) ∧ W.cell? ⟨w.heap.size, 5, none⟩ = some (.bool v.b) ∧ W.cell? ⟨w.heap.size, 6, none⟩ = some (.string v.s) ∧ W.cell? ⟨w.heap.size, 7, none⟩ = some (.float .f64 v.n))) (by kernel_rfl) (⟨((Below.refl _ _).alloc (Nat.le_refl _) _).drew, HN.out.1, HN.out.2.1, HN.out.2.2.1, HN.out.2.2.2.1, HN.out.2.2.2.2.1, HN.out.2.2.2.2.2.1, HN.out.2.2.2.2.2.2.1, HN.out.2.2.2.2.2.2.2⟩) (fun hHeld => ?_)
      refine tk 0 ?_
      (try simp only [Act.put, sA, sB, sC])
      refine tk 1 ?_
      (try simp only [Act.put, sA, sB, sC])
      refine tk 3 ?_
      (try simp only [Act.put, sA, sB, sC])
      refine tk 4 ?_
      (try simp only [Act.put, sA, sB, sC])
      refine tk 5 ?_
      (try simp only [Act.put, sA, sB, sC])
      refine wpAnyH_ready (rs := [2]) (by kernel_rfl) (by simp) ?_
      refine AllReadyH.cons (o := ?o6) ?g6 (fun K hK => ?j6) AllReadyH.nil
      case g6 => (simp only [gA, gB, gC]; rfl)
      go_simp
      refine (HK.out _).mono ?_; rintro e wK ⟨rfl, rfl⟩
      refine hK.out _ _ ?_ (fun hHeld => ?_)
      · (try dsimp only); (first | assumption | exact HKP.out _ _ (by assumption) hbA)
      clear hK K
      (try simp only [Act.put, sA, sB, sC])
      refine tk 6 ?_
      (try simp only [Act.put, sA, sB, sC])
      refine tk 7 ?_
      (try simp only [Act.put, sA, sB, sC])
      refine tk 8 ?_
      (try simp only [Act.put, sA, sB, sC])
      refine tk 9 ?_
      (try simp only [Act.put, sA, sB, sC])
      refine tk 10 ?_
      (try simp only [Act.put, sA, sB, sC])
      refine tk 11 ?_
      (try simp only [Act.put, sA, sB, sC])
      refine sk 12 ?_
      (try simp only [Act.put, sA, sB, sC])
      refine sk 13 ?_
      (try simp only [Act.put, sA, sB, sC])
      refine sk 14 ?_
      (try simp only [Act.put, sA, sB, sC])
      refine tk 15 ?_
      (try simp only [Act.put, sA, sB, sC])
      refine tk 16 ?_
      (try simp only [Act.put, sA, sB, sC])
      refine tk 17 ?_
      (try simp only [Act.put, sA, sB, sC])
      refine tk 18 ?_
      (try simp only [Act.put, sA, sB, sC])
      refine tk 19 ?_
      (try simp only [Act.put, sA, sB, sC])
      refine tk 20 ?_
      (try simp only [Act.put, sA, sB, sC])
      refine tk 21 ?_
      (try simp only [Act.put, sA, sB, sC])
      refine tk 22 ?_
      (try simp only [Act.put, sA, sB, sC])
      refine tk 23 ?_
      (try simp only [Act.put, sA, sB, sC])
      refine tk 24 ?_
      (try simp only [Act.put, sA, sB, sC])
      refine wpAnyH_ready (rs := [25]) (by kernel_rfl) (by simp) ?_
      refine AllReadyH.cons (o := ?o26) ?g26 (fun K hK => ?j26) AllReadyH.nil
      case g26 => (simp only [gA, gB, gC]; rfl)
      go_simp
      refine (HS.out _).mono ?_; rintro e wA ⟨rfl, hbA⟩
      refine hK.out _ _ ?_ (fun hHeld => ?_)
      · (try dsimp only); (first | assumption | exact HKP.out _ _ (by assumption) hbA)
      clear hK K
      (try simp only [Act.put, sA, sB, sC])
      refine tk 26 ?_
      (try simp only [Act.put, sA, sB, sC])
      refine tk 27 ?_
      (try simp only [Act.put, sA, sB, sC])
      refine tk 28 ?_
      (try simp only [Act.put, sA, sB, sC])
      refine wpAnyH_done (by kernel_rfl) ?_ _
      have hB := And.left hHeld
      have hfin := HSP.out.1 hform
      have HFIN := Lib.hid hfin
      clear hfin
      go_wp2
      exact bodyPost_ret (v := pairII (0, 1)) (by simp [results, Tryz.results198, go_sem]) rfl ⟨by rw [HFIN.out], hB⟩
    · have hform : ((kidsN 2 == (n : Int)) && (((2 : Int) == 2 || (nm.toList == [])) && ((2 : Int) == 1 || true))) = true := by rw [h1]; rfl
      go_enter Tryz.func198, Tryz.ntmps198
      go_wp2
      refine wp_region_held_drew (S := (fun W => Below w.heap.size w W ∧ W.cell? ⟨w.heap.size, 0, none⟩ = some (.int .i64 2) ∧ W.cell? ⟨w.heap.size, 1, none⟩ = some (.slice A n c) ∧ W.cell? ⟨w.heap.size, 2, none⟩ = some (.string nm) ∧ W.cell? ⟨w.heap.size, 3, none⟩ = some (.int .i64 v.k) ∧ W.cell? ⟨w.heap.size, 4, none⟩ = some (.int .i64 v.i) ∧ W.cell? ⟨w.heap.size, 5, none⟩ = some (.bool v.b) ∧ W.cell? ⟨w.heap.size, 6, none⟩ = some (.string v.s) ∧ W.cell? ⟨w.heap.size, 7, none⟩ = some (.float .f64 v.n))) (by kernel_rfl) (⟨((Below.refl _ _).alloc (Nat.le_refl _) _).drew, HN.out.1, HN.out.2.1, HN.out.2.2.1, HN.out.2.2.2.1, HN.out.2.2.2.2.1, HN.out.2.2.2.2.2.1, HN.out.2.2.2.2.2.2.1, HN.out.2.2.2.2.2.2.2⟩) (fun hHeld => ?_)
      refine tk 0 ?_
      (try simp only [Act.put, sA, sB, sC])
      refine tk 1 ?_
      (try simp only [Act.put, sA, sB, sC])
      refine tk 3 ?_
      (try simp only [Act.put, sA, sB, sC])
      refine tk 4 ?_
      (try simp only [Act.put, sA, sB, sC])
      refine tk 5 ?_
      (try simp only [Act.put, sA, sB, sC])
      refine wpAnyH_ready (rs := [2]) (by kernel_rfl) (by simp) ?_
      refine AllReadyH.cons (o := ?o35) ?g35 (fun K hK => ?j35) AllReadyH.nil
      case g35 => (simp only [gA, gB, gC]; rfl)
      go_simp
      refine (HK.out _).mono ?_; rintro e wK ⟨rfl, rfl⟩
      refine hK.out _ _ ?_ (fun hHeld => ?_)
      · (try dsimp only); (first | assumption | exact HKP.out _ _ (by assumption) hbA)
      clear hK K
      (try simp only [Act.put, sA, sB, sC])
      refine tk 6 ?_
      (try simp only [Act.put, sA, sB, sC])
      refine tk 7 ?_
      (try simp only [Act.put, sA, sB, sC])
      refine tk 8 ?_
      (try simp only [Act.put, sA, sB, sC])
      refine tk 9 ?_
      (try simp only [Act.put, sA, sB, sC])
      refine tk 10 ?_
      (try simp only [Act.put, sA, sB, sC])
      refine tk 11 ?_
      (try simp only [Act.put, sA, sB, sC])
      refine sk 12 ?_
      (try simp only [Act.put, sA, sB, sC])
      refine sk 13 ?_
      (try simp only [Act.put, sA, sB, sC])
      refine sk 14 ?_
      (try simp only [Act.put, sA, sB, sC])
      refine tk 15 ?_
      (try simp only [Act.put, sA, sB, sC])
      refine tk 16 ?_
      (try simp only [Act.put, sA, sB, sC])
      refine tk 17 ?_
      (try simp only [Act.put, sA, sB, sC])
      refine tk 18 ?_
      (try simp only [Act.put, sA, sB, sC])
      refine tk 19 ?_
      (try simp only [Act.put, sA, sB, sC])
      refine tk 20 ?_
      (try simp only [Act.put, sA, sB, sC])
      refine tk 21 ?_
      (try simp only [Act.put, sA, sB, sC])
      refine tk 22 ?_
      (try simp only [Act.put, sA, sB, sC])
      refine tk 23 ?_
      (try simp only [Act.put, sA, sB, sC])
      refine tk 24 ?_
      (try simp only [Act.put, sA, sB, sC])
      refine wpAnyH_ready (rs := [25]) (by kernel_rfl) (by simp) ?_
      refine AllReadyH.cons (o := ?o55) ?g55 (fun K hK => ?j55) AllReadyH.nil
      case g55 => (simp only [gA, gB, gC]; rfl)
      go_simp
      refine (HS.out _).mono ?_; rintro e wA ⟨rfl, hbA⟩
      refine hK.out _ _ ?_ (fun hHeld => ?_)
      · (try dsimp only); (first | assumption | exact HKP.out _ _ (by assumption) hbA)
      clear hK K
      (try simp only [Act.put, sA, sB, sC])
      refine tk 26 ?_
      (try simp only [Act.put, sA, sB, sC])
      refine tk 27 ?_
      (try simp only [Act.put, sA, sB, sC])
      refine tk 28 ?_
      (try simp only [Act.put, sA, sB, sC])
      refine wpAnyH_done (by kernel_rfl) ?_ _
      obtain ⟨hB, d0, d1, d2, d3, d4, d5, d6, d7⟩ := hHeld
      have hfin := HSP.out.2.2.1 hform (by first | rfl | trivial)
      have hff := HFLD.out _ hB
      have HFIN := Lib.hid hfin
      have HFW := Lib.hid (HFK.out.below hB (Nat.le_refl _))
      clear hfin
      unfold fieldX at HFIN
      generalize hfi : findX nm fs 0 = i at *
      by_cases hi0 : i < 0
      · have HFF := Lib.hid hff
        have hR := HFIN.out
        rw [if_pos hi0] at hR
        have HR := Lib.hid hR
        clear hR HFIN hff
        go_wp2_with (go_at_call 233; refine HFF.out.mono ?_; rintro e wF ⟨rfl, rfl⟩)
        exact bodyPost_ret (v := pairII (0, 50)) (by simp [results, Tryz.results198, go_sem]) rfl ⟨by rw [HR.out], hB⟩
      · obtain ⟨j, hj1, hj2⟩ := findX_at nm fs 0 (by rw [hfi]; omega)
        rw [hfi, Nat.zero_add] at hj1
        subst hj1
        obtain ⟨fad, A', n', c', y, e0, -, hq⟩ := HFW.out.2.2.2 j hj2
        subst e0
        have q1 := hq.2.1
        have hjI : (j : Int) < (fs.length : Int) := by omega
        have hR := HFIN.out
        rw [if_neg hi0, Int.toNat_natCast, List.getElem?_eq_getElem hj2] at hR
        have HR := Lib.hid (show RES = (fs[j].kind, 0) from hR)
        have HFF := Lib.hid hff
        clear hR HFIN hff hq
        generalize fs[j].kind = fk at *
        go_wp2_with (go_at_call 233; refine HFF.out.mono ?_; rintro e wF ⟨rfl, rfl⟩)
        exact bodyPost_ret (v := pairII (fk, 0)) (by simp [results, Tryz.results198, go_sem]) rfl ⟨by rw [HR.out], hB⟩
  have h2 : (op == 2) = false := beq_eq_false_iff_ne.2 o2
  have h2n : (op != 2) = true := by rw [bne, h2]; rfl
  have hen2 : (nm.toList != (⟨#[]⟩ : ByteArray).toList) = !(nm.toList == []) := by rw [bne, hen]
  rcases h3 : (nm.toList == []) with _ | _
  · rw [h3] at hen hen2
    simp only [Bool.not_false] at hen2
    have hform : ((kidsN op == (n : Int)) && ((op == 2 || (nm.toList == [])) && (op == 1 || sv))) = false := by rw [h2, h3]; simp
    go_enter Tryz.func198, Tryz.ntmps198
    go_wp2
    go_quiet ((go_at_call 232; exact Calls.quiet_of_same (HK.out _)))
    go_wp2
    have HFIN := Lib.hid (HSP.out.1 hform)
    exact bodyPost_ret (v := pairII (0, 1)) (by simp [results, Tryz.results198, go_sem]) rfl ⟨by rw [HFIN.out], below_drewN HB0.out _⟩
  rw [h3] at hen hen2
  simp only [Bool.not_true] at hen2
  by_cases o1 : op = 1
  · subst o1
    have hform : ((kidsN 1 == (n : Int)) && (((1 : Int) == 2 || (nm.toList == [])) && ((1 : Int) == 1 || sv))) = true := by rw [h1, h3]; rfl
    go_enter Tryz.func198, Tryz.ntmps198
    go_wp2
    go_quiet ((go_at_call 232; exact Calls.quiet_of_same (HK.out _)))
    have hfin := HSP.out.2.1 hform (by first | rfl | trivial)
    generalize hwd : World.drewN _ _ = wd
    have hB : Below w.heap.size w wd := by rw [← hwd]; exact below_drewN HB0.out _
    have hcx : CellsX wd w.heap.size 1 A n c nm v := by rw [← hwd]; exact HN.out
    have HCX := Lib.hid (fun W (hb : Below wd.heap.size wd W) => hcx.below hb)
    obtain ⟨d0, d1, d2, d3, d4, d5, d6, d7⟩ := hcx
    clear hwd
    rcases gv with _ | _
    · rw [if_neg (by decide)] at hfin
      have HFIN := Lib.hid hfin
      clear hfin
      go_wp2_with (go_at_call 92; refine (HG.out _).mono ?_; rintro e wG ⟨rfl, hbG⟩)
      exact bodyPost_ret (v := pairII (0, 40)) (by simp [results, Tryz.results198, go_sem]) rfl ⟨by rw [HFIN.out], hB.trans (hbG.mono hB.size)⟩
    · rw [if_pos rfl] at hfin
      have HFIN := Lib.hid hfin
      clear hfin
      go_wp2_with (go_at_call 92; refine (HG.out _).mono ?_; rintro e wG ⟨rfl, hbG⟩; clear d0 d1 d2 d3 d4 d5 d6 d7; obtain ⟨d0, d1, d2, d3, d4, d5, d6, d7⟩ := HCX.out _ hbG)
      exact bodyPost_ret (v := pairII (v.k, 0)) (by simp [results, Tryz.results198, go_sem]) rfl ⟨by rw [HFIN.out], hB.trans (hbG.mono hB.size)⟩
  have h4 : (op == 1) = false := beq_eq_false_iff_ne.2 o1
  have h4n : (op != 1) = true := by rw [bne, h4]; rfl
  rcases sv with _ | _
  · have hform : ((kidsN op == (n : Int)) && ((op == 2 || (nm.toList == [])) && (op == 1 || false))) = false := by rw [h4]; simp
    go_enter Tryz.func198, Tryz.ntmps198
    go_wp2
    refine wp_region_held_drew (S := (fun W => Below w.heap.size w W ∧ W.cell? ⟨w.heap.size, 0, none⟩ = some (.int .i64 op) ∧ W.cell? ⟨w.heap.size, 1, none⟩ = some (.slice A n c) ∧ W.cell? ⟨w.heap.size, 2, none⟩ = some (.string nm) ∧ W.cell? ⟨w.heap.size, 3, none⟩ = some (.int .i64 v.k) ∧ W.cell? ⟨w.heap.size, 4, none⟩ = some (.int .i64 v.i) ∧ W.cell? ⟨w.heap.size, 5, none⟩ = some (.bool v.b) ∧ W.cell? ⟨w.heap.size, 6, none⟩ = some (.string v.s) ∧ W.cell? ⟨w.heap.size, 7, none⟩ = some (.float .f64 v.n))) (by kernel_rfl) (⟨((Below.refl _ _).alloc (Nat.le_refl _) _).drew, HN.out.1, HN.out.2.1, HN.out.2.2.1, HN.out.2.2.2.1, HN.out.2.2.2.2.1, HN.out.2.2.2.2.2.1, HN.out.2.2.2.2.2.2.1, HN.out.2.2.2.2.2.2.2⟩) (fun hHeld => ?_)
    refine tk 0 ?_
    (try simp only [Act.put, sA, sB, sC])
    refine tk 1 ?_
    (try simp only [Act.put, sA, sB, sC])
    refine tk 3 ?_
    (try simp only [Act.put, sA, sB, sC])
    refine tk 4 ?_
    (try simp only [Act.put, sA, sB, sC])
    refine tk 5 ?_
    (try simp only [Act.put, sA, sB, sC])
    refine wpAnyH_ready (rs := [2]) (by kernel_rfl) (by simp) ?_
    refine AllReadyH.cons (o := ?o64) ?g64 (fun K hK => ?j64) AllReadyH.nil
    case g64 => (simp only [gA, gB, gC]; rfl)
    go_simp
    refine (HK.out _).mono ?_; rintro e wK ⟨rfl, rfl⟩
    refine hK.out _ _ ?_ (fun hHeld => ?_)
    · (try dsimp only); (first | assumption | exact HKP.out _ _ (by assumption) hbA)
    clear hK K
    (try simp only [Act.put, sA, sB, sC])
    refine tk 6 ?_
    (try simp only [Act.put, sA, sB, sC])
    refine tk 7 ?_
    (try simp only [Act.put, sA, sB, sC])
    refine tk 8 ?_
    (try simp only [Act.put, sA, sB, sC])
    refine tk 9 ?_
    (try simp only [Act.put, sA, sB, sC])
    refine tk 10 ?_
    (try simp only [Act.put, sA, sB, sC])
    refine tk 11 ?_
    (try simp only [Act.put, sA, sB, sC])
    refine tk 12 ?_
    (try simp only [Act.put, sA, sB, sC])
    refine tk 13 ?_
    (try simp only [Act.put, sA, sB, sC])
    refine tk 14 ?_
    (try simp only [Act.put, sA, sB, sC])
    refine tk 15 ?_
    (try simp only [Act.put, sA, sB, sC])
    refine tk 16 ?_
    (try simp only [Act.put, sA, sB, sC])
    refine tk 17 ?_
    (try simp only [Act.put, sA, sB, sC])
    refine tk 18 ?_
    (try simp only [Act.put, sA, sB, sC])
    refine tk 19 ?_
    (try simp only [Act.put, sA, sB, sC])
    refine tk 20 ?_
    (try simp only [Act.put, sA, sB, sC])
    refine tk 21 ?_
    (try simp only [Act.put, sA, sB, sC])
    refine tk 22 ?_
    (try simp only [Act.put, sA, sB, sC])
    refine tk 23 ?_
    (try simp only [Act.put, sA, sB, sC])
    refine tk 24 ?_
    (try simp only [Act.put, sA, sB, sC])
    refine wpAnyH_ready (rs := [25]) (by kernel_rfl) (by simp) ?_
    refine AllReadyH.cons (o := ?o84) ?g84 (fun K hK => ?j84) AllReadyH.nil
    case g84 => (simp only [gA, gB, gC]; rfl)
    go_simp
    refine (HS.out _).mono ?_; rintro e wA ⟨rfl, hbA⟩
    refine hK.out _ _ ?_ (fun hHeld => ?_)
    · (try dsimp only); (first | assumption | exact HKP.out _ _ (by assumption) hbA)
    clear hK K
    (try simp only [Act.put, sA, sB, sC])
    refine tk 26 ?_
    (try simp only [Act.put, sA, sB, sC])
    refine tk 27 ?_
    (try simp only [Act.put, sA, sB, sC])
    refine tk 28 ?_
    (try simp only [Act.put, sA, sB, sC])
    refine wpAnyH_done (by kernel_rfl) ?_ _
    have hB := And.left hHeld
    have hfin := HSP.out.1 hform
    have HFIN := Lib.hid hfin
    clear hfin
    go_wp2
    exact bodyPost_ret (v := pairII (0, 1)) (by simp [results, Tryz.results198, go_sem]) rfl ⟨by rw [HFIN.out], hB⟩
  · have hform : ((kidsN op == (n : Int)) && ((op == 2 || (nm.toList == [])) && (op == 1 || true))) = true := by rw [h1, h3]; simp
    go_enter Tryz.func198, Tryz.ntmps198
    go_wp2
    refine wp_region_held_drew (S := (fun W => Below w.heap.size w W ∧ W.cell? ⟨w.heap.size, 0, none⟩ = some (.int .i64 op) ∧ W.cell? ⟨w.heap.size, 1, none⟩ = some (.slice A n c) ∧ W.cell? ⟨w.heap.size, 2, none⟩ = some (.string nm) ∧ W.cell? ⟨w.heap.size, 3, none⟩ = some (.int .i64 v.k) ∧ W.cell? ⟨w.heap.size, 4, none⟩ = some (.int .i64 v.i) ∧ W.cell? ⟨w.heap.size, 5, none⟩ = some (.bool v.b) ∧ W.cell? ⟨w.heap.size, 6, none⟩ = some (.string v.s) ∧ W.cell? ⟨w.heap.size, 7, none⟩ = some (.float .f64 v.n))) (by kernel_rfl) (⟨((Below.refl _ _).alloc (Nat.le_refl _) _).drew, HN.out.1, HN.out.2.1, HN.out.2.2.1, HN.out.2.2.2.1, HN.out.2.2.2.2.1, HN.out.2.2.2.2.2.1, HN.out.2.2.2.2.2.2.1, HN.out.2.2.2.2.2.2.2⟩) (fun hHeld => ?_)
    refine tk 0 ?_
    (try simp only [Act.put, sA, sB, sC])
    refine tk 1 ?_
    (try simp only [Act.put, sA, sB, sC])
    refine tk 3 ?_
    (try simp only [Act.put, sA, sB, sC])
    refine tk 4 ?_
    (try simp only [Act.put, sA, sB, sC])
    refine tk 5 ?_
    (try simp only [Act.put, sA, sB, sC])
    refine wpAnyH_ready (rs := [2]) (by kernel_rfl) (by simp) ?_
    refine AllReadyH.cons (o := ?o93) ?g93 (fun K hK => ?j93) AllReadyH.nil
    case g93 => (simp only [gA, gB, gC]; rfl)
    go_simp
    refine (HK.out _).mono ?_; rintro e wK ⟨rfl, rfl⟩
    refine hK.out _ _ ?_ (fun hHeld => ?_)
    · (try dsimp only); (first | assumption | exact HKP.out _ _ (by assumption) hbA)
    clear hK K
    (try simp only [Act.put, sA, sB, sC])
    refine tk 6 ?_
    (try simp only [Act.put, sA, sB, sC])
    refine tk 7 ?_
    (try simp only [Act.put, sA, sB, sC])
    refine tk 8 ?_
    (try simp only [Act.put, sA, sB, sC])
    refine tk 9 ?_
    (try simp only [Act.put, sA, sB, sC])
    refine tk 10 ?_
    (try simp only [Act.put, sA, sB, sC])
    refine tk 11 ?_
    (try simp only [Act.put, sA, sB, sC])
    refine tk 12 ?_
    (try simp only [Act.put, sA, sB, sC])
    refine tk 13 ?_
    (try simp only [Act.put, sA, sB, sC])
    refine tk 14 ?_
    (try simp only [Act.put, sA, sB, sC])
    refine tk 15 ?_
    (try simp only [Act.put, sA, sB, sC])
    refine tk 16 ?_
    (try simp only [Act.put, sA, sB, sC])
    refine tk 17 ?_
    (try simp only [Act.put, sA, sB, sC])
    refine tk 18 ?_
    (try simp only [Act.put, sA, sB, sC])
    refine tk 19 ?_
    (try simp only [Act.put, sA, sB, sC])
    refine tk 20 ?_
    (try simp only [Act.put, sA, sB, sC])
    refine tk 21 ?_
    (try simp only [Act.put, sA, sB, sC])
    refine tk 22 ?_
    (try simp only [Act.put, sA, sB, sC])
    refine tk 23 ?_
    (try simp only [Act.put, sA, sB, sC])
    refine tk 24 ?_
    (try simp only [Act.put, sA, sB, sC])
    refine wpAnyH_ready (rs := [25]) (by kernel_rfl) (by simp) ?_
    refine AllReadyH.cons (o := ?o113) ?g113 (fun K hK => ?j113) AllReadyH.nil
    case g113 => (simp only [gA, gB, gC]; rfl)
    go_simp
    refine (HS.out _).mono ?_; rintro e wA ⟨rfl, hbA⟩
    refine hK.out _ _ ?_ (fun hHeld => ?_)
    · (try dsimp only); (first | assumption | exact HKP.out _ _ (by assumption) hbA)
    clear hK K
    (try simp only [Act.put, sA, sB, sC])
    refine tk 26 ?_
    (try simp only [Act.put, sA, sB, sC])
    refine tk 27 ?_
    (try simp only [Act.put, sA, sB, sC])
    refine tk 28 ?_
    (try simp only [Act.put, sA, sB, sC])
    refine wpAnyH_done (by kernel_rfl) ?_ _
    obtain ⟨hB, d0, d1, d2, d3, d4, d5, d6, d7⟩ := hHeld
    have hfin := HSP.out.2.2.2.1 hform o1 o2
    have hkn := HSP.out.2.2.2.2 hform
    have hln := HLN.out
    by_cases o3 : op = 3
    · subst o3
      have hnk : n = 1 := by have : kidsN 3 = 1 := rfl; omega
      obtain ⟨a, rfl⟩ := len1 l (by omega)
      obtain ⟨ad, e0, k0⟩ := HKW.out _ hB 0 (by simp)
      subst e0
      simp only [Addr.add_zero', Addr.add_succ', List.getElem_cons_zero, List.getElem_cons_succ, Nat.zero_add] at k0
      have hn1 : (0 : Int) < (n : Int) := by omega
      rcases h0 : (a == 1) with _ | _
      · rcases h1 : (a == 4) with _ | _
        · have hR : RES = (0, 40) := by rw [hfin]; simp [kindL, kindT, h0, h1]
          have HR := Lib.hid hR
          clear hR hfin
          go_wp2
          exact bodyPost_ret (v := pairII (0, 40)) (by simp [results, Tryz.results198, go_sem]) rfl ⟨by rw [HR.out], hB⟩
        · have hR : RES = (a, 0) := by rw [hfin]; simp [kindL, kindT, h0, h1]
          have HR := Lib.hid hR
          clear hR hfin
          go_wp2
          exact bodyPost_ret (v := pairII (a, 0)) (by simp [results, Tryz.results198, go_sem]) rfl ⟨by rw [HR.out], hB⟩
      · have hR : RES = (a, 0) := by rw [hfin]; simp [kindL, kindT, h0]
        have HR := Lib.hid hR
        clear hR hfin
        go_wp2
        exact bodyPost_ret (v := pairII (a, 0)) (by simp [results, Tryz.results198, go_sem]) rfl ⟨by rw [HR.out], hB⟩
    by_cases o16 : op = 16
    · subst o16
      have hnk : n = 1 := by have : kidsN 16 = 1 := rfl; omega
      obtain ⟨a, rfl⟩ := len1 l (by omega)
      obtain ⟨ad, e0, k0⟩ := HKW.out _ hB 0 (by simp)
      subst e0
      simp only [Addr.add_zero', Addr.add_succ', List.getElem_cons_zero, List.getElem_cons_succ, Nat.zero_add] at k0
      have hn1 : (0 : Int) < (n : Int) := by omega
      rcases h0 : (a == 1) with _ | _
      · have hR : RES = (0, 40) := by rw [hfin]; simp [kindL, kindT, h0]
        have HR := Lib.hid hR
        clear hR hfin
        go_wp2
        exact bodyPost_ret (v := pairII (0, 40)) (by simp [results, Tryz.results198, go_sem]) rfl ⟨by rw [HR.out], hB⟩
      · have hR : RES = (4, 0) := by rw [hfin]; simp [kindL, kindT, h0]
        have HR := Lib.hid hR
        clear hR hfin
        go_wp2
        exact bodyPost_ret (v := pairII (4, 0)) (by simp [results, Tryz.results198, go_sem]) rfl ⟨by rw [HR.out], hB⟩
    by_cases o12 : op = 12
    · subst o12
      have hnk : n = 1 := by have : kidsN 12 = 1 := rfl; omega
      obtain ⟨a, rfl⟩ := len1 l (by omega)
      obtain ⟨ad, e0, k0⟩ := HKW.out _ hB 0 (by simp)
      subst e0
      simp only [Addr.add_zero', Addr.add_succ', List.getElem_cons_zero, List.getElem_cons_succ, Nat.zero_add] at k0
      have hn1 : (0 : Int) < (n : Int) := by omega
      rcases h0 : (a == 2) with _ | _
      · have hR : RES = (0, 40) := by rw [hfin]; simp [kindL, kindT, h0]
        have HR := Lib.hid hR
        clear hR hfin
        go_wp2
        exact bodyPost_ret (v := pairII (0, 40)) (by simp [results, Tryz.results198, go_sem]) rfl ⟨by rw [HR.out], hB⟩
      · have hR : RES = (2, 0) := by rw [hfin]; simp [kindL, kindT, h0]
        have HR := Lib.hid hR
        clear hR hfin
        go_wp2
        exact bodyPost_ret (v := pairII (2, 0)) (by simp [results, Tryz.results198, go_sem]) rfl ⟨by rw [HR.out], hB⟩
    by_cases o10 : op = 10
    · subst o10
      have hnk : n = 2 := by have : kidsN 10 = 2 := rfl; omega
      obtain ⟨a, z, rfl⟩ := len2 l (by omega)
      obtain ⟨ad, e0, k0⟩ := HKW.out _ hB 0 (by simp)
      subst e0
      obtain ⟨ad2, e1, k1⟩ := HKW.out _ hB 1 (by simp)
      injection e1 with e1
      subst e1
      simp only [Addr.add_zero', Addr.add_succ', List.getElem_cons_zero, List.getElem_cons_succ, Nat.zero_add] at k0 k1
      have hn1 : (0 : Int) < (n : Int) := by omega
      have hn2 : (1 : Int) < (n : Int) := by omega
      rcases h0 : (a == 2) with _ | _
      · have hR : RES = (0, 40) := by rw [hfin]; simp [kindL, kindT, h0]
        have HR := Lib.hid hR
        clear hR hfin
        go_wp2
        exact bodyPost_ret (v := pairII (0, 40)) (by simp [results, Tryz.results198, go_sem]) rfl ⟨by rw [HR.out], hB⟩
      · rcases h1 : (z == 2) with _ | _
        · have hR : RES = (0, 40) := by rw [hfin]; simp [kindL, kindT, h0, h1]
          have HR := Lib.hid hR
          clear hR hfin
          go_wp2
          exact bodyPost_ret (v := pairII (0, 40)) (by simp [results, Tryz.results198, go_sem]) rfl ⟨by rw [HR.out], hB⟩
        · have hR : RES = (2, 0) := by rw [hfin]; simp [kindL, kindT, h0, h1]
          have HR := Lib.hid hR
          clear hR hfin
          go_wp2
          exact bodyPost_ret (v := pairII (2, 0)) (by simp [results, Tryz.results198, go_sem]) rfl ⟨by rw [HR.out], hB⟩
    by_cases o11 : op = 11
    · subst o11
      have hnk : n = 2 := by have : kidsN 11 = 2 := rfl; omega
      obtain ⟨a, z, rfl⟩ := len2 l (by omega)
      obtain ⟨ad, e0, k0⟩ := HKW.out _ hB 0 (by simp)
      subst e0
      obtain ⟨ad2, e1, k1⟩ := HKW.out _ hB 1 (by simp)
      injection e1 with e1
      subst e1
      simp only [Addr.add_zero', Addr.add_succ', List.getElem_cons_zero, List.getElem_cons_succ, Nat.zero_add] at k0 k1
      have hn1 : (0 : Int) < (n : Int) := by omega
      have hn2 : (1 : Int) < (n : Int) := by omega
      rcases h0 : (a == 2) with _ | _
      · have hR : RES = (0, 40) := by rw [hfin]; simp [kindL, kindT, h0]
        have HR := Lib.hid hR
        clear hR hfin
        go_wp2
        exact bodyPost_ret (v := pairII (0, 40)) (by simp [results, Tryz.results198, go_sem]) rfl ⟨by rw [HR.out], hB⟩
      · rcases h1 : (z == 2) with _ | _
        · have hR : RES = (0, 40) := by rw [hfin]; simp [kindL, kindT, h0, h1]
          have HR := Lib.hid hR
          clear hR hfin
          go_wp2
          exact bodyPost_ret (v := pairII (0, 40)) (by simp [results, Tryz.results198, go_sem]) rfl ⟨by rw [HR.out], hB⟩
        · have hR : RES = (2, 0) := by rw [hfin]; simp [kindL, kindT, h0, h1]
          have HR := Lib.hid hR
          clear hR hfin
          go_wp2
          exact bodyPost_ret (v := pairII (2, 0)) (by simp [results, Tryz.results198, go_sem]) rfl ⟨by rw [HR.out], hB⟩
    by_cases o8 : op = 8
    · subst o8
      have hnk : n = 2 := by have : kidsN 8 = 2 := rfl; omega
      obtain ⟨a, z, rfl⟩ := len2 l (by omega)
      obtain ⟨ad, e0, k0⟩ := HKW.out _ hB 0 (by simp)
      subst e0
      obtain ⟨ad2, e1, k1⟩ := HKW.out _ hB 1 (by simp)
      injection e1 with e1
      subst e1
      simp only [Addr.add_zero', Addr.add_succ', List.getElem_cons_zero, List.getElem_cons_succ, Nat.zero_add] at k0 k1
      have hn1 : (0 : Int) < (n : Int) := by omega
      have hn2 : (1 : Int) < (n : Int) := by omega
      rcases h0 : (a == z) with _ | _
      · have hR : RES = (0, 40) := by rw [hfin]; simp [kindL, kindT, h0]
        have HR := Lib.hid hR
        clear hR hfin
        go_wp2
        go_quiet (fail)
        go_wp2
        exact bodyPost_ret (v := pairII (0, 40)) (by simp [results, Tryz.results198, go_sem]) rfl ⟨by rw [HR.out], below_drewN hB _⟩
      · have hR : RES = (2, 0) := by rw [hfin]; simp [kindL, kindT, h0]
        have HR := Lib.hid hR
        clear hR hfin
        go_wp2
        go_quiet (fail)
        go_wp2
        exact bodyPost_ret (v := pairII (2, 0)) (by simp [results, Tryz.results198, go_sem]) rfl ⟨by rw [HR.out], below_drewN hB _⟩
    by_cases o9 : op = 9
    · subst o9
      have hnk : n = 2 := by have : kidsN 9 = 2 := rfl; omega
      obtain ⟨a, z, rfl⟩ := len2 l (by omega)
      obtain ⟨ad, e0, k0⟩ := HKW.out _ hB 0 (by simp)
      subst e0
      obtain ⟨ad2, e1, k1⟩ := HKW.out _ hB 1 (by simp)
      injection e1 with e1
      subst e1
      simp only [Addr.add_zero', Addr.add_succ', List.getElem_cons_zero, List.getElem_cons_succ, Nat.zero_add] at k0 k1
      have hn1 : (0 : Int) < (n : Int) := by omega
      have hn2 : (1 : Int) < (n : Int) := by omega
      rcases h0 : (a == z) with _ | _
      · have hR : RES = (0, 40) := by rw [hfin]; simp [kindL, kindT, h0]
        have HR := Lib.hid hR
        clear hR hfin
        go_wp2
        go_quiet (fail)
        go_wp2
        exact bodyPost_ret (v := pairII (0, 40)) (by simp [results, Tryz.results198, go_sem]) rfl ⟨by rw [HR.out], below_drewN hB _⟩
      · rcases h1 : (a == 1) with _ | _
        · rcases h2 : (a == 3) with _ | _
          · rcases h3 : (a == 4) with _ | _
            · have hR : RES = (0, 40) := by rw [hfin]; simp [kindL, kindT, h0, h1, h2, h3]
              have HR := Lib.hid hR
              clear hR hfin
              go_wp2
              go_quiet (fail)
              go_wp2
              exact bodyPost_ret (v := pairII (0, 40)) (by simp [results, Tryz.results198, go_sem]) rfl ⟨by rw [HR.out], below_drewN hB _⟩
            · have hR : RES = (2, 0) := by rw [hfin]; simp [kindL, kindT, h0, h1, h2, h3]
              have HR := Lib.hid hR
              clear hR hfin
              go_wp2
              go_quiet (fail)
              go_wp2
              exact bodyPost_ret (v := pairII (2, 0)) (by simp [results, Tryz.results198, go_sem]) rfl ⟨by rw [HR.out], below_drewN hB _⟩
          · have hR : RES = (2, 0) := by rw [hfin]; simp [kindL, kindT, h0, h1, h2]
            have HR := Lib.hid hR
            clear hR hfin
            go_wp2
            go_quiet (fail)
            go_wp2
            exact bodyPost_ret (v := pairII (2, 0)) (by simp [results, Tryz.results198, go_sem]) rfl ⟨by rw [HR.out], below_drewN hB _⟩
        · have hR : RES = (2, 0) := by rw [hfin]; simp [kindL, kindT, h0, h1]
          have HR := Lib.hid hR
          clear hR hfin
          go_wp2
          go_quiet (fail)
          go_wp2
          exact bodyPost_ret (v := pairII (2, 0)) (by simp [results, Tryz.results198, go_sem]) rfl ⟨by rw [HR.out], below_drewN hB _⟩
    by_cases o13 : op = 13
    · subst o13
      have hnk : n = 3 := by have : kidsN 13 = 3 := rfl; omega
      obtain ⟨a, m, z, rfl⟩ := len3 l (by omega)
      obtain ⟨ad, e0, k0⟩ := HKW.out _ hB 0 (by simp)
      subst e0
      obtain ⟨ad2, e1, k1⟩ := HKW.out _ hB 1 (by simp)
      injection e1 with e1
      subst e1
      obtain ⟨ad3, e2, k2⟩ := HKW.out _ hB 2 (by simp)
      injection e2 with e2
      subst e2
      simp only [Addr.add_zero', Addr.add_succ', List.getElem_cons_zero, List.getElem_cons_succ, Nat.zero_add] at k0 k1 k2
      have hn1 : (0 : Int) < (n : Int) := by omega
      have hn2 : (1 : Int) < (n : Int) := by omega
      have hn3 : (2 : Int) < (n : Int) := by omega
      rcases h0 : (a == 2) with _ | _
      · have hR : RES = (0, 40) := by rw [hfin]; simp [kindL, kindT, h0]
        have HR := Lib.hid hR
        clear hR hfin
        go_wp2
        go_quiet (fail)
        go_wp2
        exact bodyPost_ret (v := pairII (0, 40)) (by simp [results, Tryz.results198, go_sem]) rfl ⟨by rw [HR.out], below_drewN hB _⟩
      · rcases h1 : (m == z) with _ | _
        · have hR : RES = (0, 40) := by rw [hfin]; simp [kindL, kindT, h0, h1]
          have HR := Lib.hid hR
          clear hR hfin
          go_wp2
          go_quiet (fail)
          go_wp2
          exact bodyPost_ret (v := pairII (0, 40)) (by simp [results, Tryz.results198, go_sem]) rfl ⟨by rw [HR.out], below_drewN hB _⟩
        · have hR : RES = (m, 0) := by rw [hfin]; simp [kindL, kindT, h0, h1]; try exact (beq_iff_eq.1 h1).symm
          have HR := Lib.hid hR
          clear hR hfin
          go_wp2
          go_quiet (fail)
          go_wp2
          exact bodyPost_ret (v := pairII (m, 0)) (by simp [results, Tryz.results198, go_sem]) rfl ⟨by rw [HR.out], below_drewN hB _⟩
    have hop : op = 4 ∨ op = 5 ∨ op = 6 ∨ op = 7 ∨ op = 14 ∨ op = 15 := by
      unfold kidsN at hkn
      simp only [o1, o2, o3, o16, o12, o10, o11, o8, o9, o13, false_or, or_false, if_false] at hkn
      split at hkn
      · assumption
      · omega
    have hnk : n = 2 := by have h2 : kidsN op = 2 := (by rcases hop with rfl | rfl | rfl | rfl | rfl | rfl <;> rfl); omega
    obtain ⟨a, z, rfl⟩ := len2 l (by omega)
    obtain ⟨ad, e0, k0⟩ := HKW.out _ hB 0 (by simp)
    subst e0
    obtain ⟨ad2, e1, k1⟩ := HKW.out _ hB 1 (by simp)
    injection e1 with e1
    subst e1
    simp only [Addr.add_zero', Addr.add_succ', List.getElem_cons_zero, List.getElem_cons_succ, Nat.zero_add] at k0 k1
    have hn1 : (0 : Int) < (n : Int) := by omega
    have hn2 : (1 : Int) < (n : Int) := by omega
    have p1 : (op == 1) = false := beq_eq_false_iff_ne.2 o1
    have p2 : (op == 2) = false := beq_eq_false_iff_ne.2 o2
    have p3 : (op == 3) = false := beq_eq_false_iff_ne.2 o3
    have p16 : (op == 16) = false := beq_eq_false_iff_ne.2 o16
    have p12 : (op == 12) = false := beq_eq_false_iff_ne.2 o12
    have p10 : (op == 10) = false := beq_eq_false_iff_ne.2 o10
    have p11 : (op == 11) = false := beq_eq_false_iff_ne.2 o11
    have p8 : (op == 8) = false := beq_eq_false_iff_ne.2 o8
    have p9 : (op == 9) = false := beq_eq_false_iff_ne.2 o9
    have p13 : (op == 13) = false := beq_eq_false_iff_ne.2 o13
    replace hfin : RES = if (a == z && (a == 1 || a == 4)) = true then (a, 0) else (0, 40) := by rw [hfin]; rcases hop with rfl | rfl | rfl | rfl | rfl | rfl <;> simp [kindL, kindT]
    clear hop hkn
    rcases h0 : (a == z) with _ | _
    · have hR : RES = (0, 40) := by rw [hfin]; simp [kindL, kindT, h0]
      have HR := Lib.hid hR
      clear hR hfin
      go_wp2
      go_quiet (fail)
      go_wp2
      exact bodyPost_ret (v := pairII (0, 40)) (by simp [results, Tryz.results198, go_sem]) rfl ⟨by rw [HR.out], below_drewN hB _⟩
    · rcases h1 : (a == 1) with _ | _
      · rcases h2 : (a == 4) with _ | _
        · have hR : RES = (0, 40) := by rw [hfin]; simp [kindL, kindT, h0, h1, h2]
          have HR := Lib.hid hR
          clear hR hfin
          go_wp2
          go_quiet (fail)
          go_wp2
          exact bodyPost_ret (v := pairII (0, 40)) (by simp [results, Tryz.results198, go_sem]) rfl ⟨by rw [HR.out], below_drewN hB _⟩
        · have hR : RES = (a, 0) := by rw [hfin]; simp [kindL, kindT, h0, h1, h2]
          have HR := Lib.hid hR
          clear hR hfin
          go_wp2
          go_quiet (fail)
          go_wp2
          exact bodyPost_ret (v := pairII (a, 0)) (by simp [results, Tryz.results198, go_sem]) rfl ⟨by rw [HR.out], below_drewN hB _⟩
      · have hR : RES = (a, 0) := by rw [hfin]; simp [kindL, kindT, h0, h1]
        have HR := Lib.hid hR
        clear hR hfin
        go_wp2
        go_quiet (fail)
        go_wp2
        exact bodyPost_ret (v := pairII (a, 0)) (by simp [results, Tryz.results198, go_sem]) rfl ⟨by rw [HR.out], below_drewN hB _⟩

theorem kids_own {w : World} {B : Nat} {v : Value} {n k : Nat} {l : List Int} (h : w.ownsRow B 3 1 v n (l.map (Value.int .i64))) (hk : l.length = k) : ∃ KA kc, v = .slice KA k kc ∧ RdI w KA kc l := by
  have h2 : Rd w v (l.map (Value.int .i64)) := Rd.of_own h
  have h3 := h2
  obtain ⟨KA, kc, e, -⟩ := h3
  rw [List.length_map] at e
  subst e
  refine ⟨KA, kc, by rw [hk], h2⟩
set_option maxHeartbeats 4000000 in
theorem rcheck_any (FA : Option Addr) (FC : Nat) (fs : List Fd) : ∀ (D d : Nat) (e : Ex) (A : Option Addr) (c : Nat) (w : World), ExK w D A c e → FdK w FA FC fs → deepX d e → sizeX d e ≤ 24 →
    Calls Tryz.prog 146 #[agX e.op A e.kids.length c e.name e.val, .slice FA fs.length FC] w (VMk (pairII (chkX d e fs)) w)
  | 0, _, _, _, _, _, h, _, _, _ => False.elim h
  | D + 1, d, e, A, c, w, hx, hf, hdeep, hsize => by
    obtain ⟨d, rfl, h23, hkids⟩ := deepX_kid hdeep hsize
    have ih := rcheck_any FA FC fs D
    obtain ⟨h2, h3, h4, h5⟩ := hx
    obtain ⟨i0, hi, hz0, hz1, hz2⟩ := info_parts eintinfo
    obtain ⟨G, hG⟩ : ∃ G : Ex → Int × Int, G = fun k => chkX d k fs := ⟨_, rfl⟩
    have hchk : chkX (d + 1) e fs = if (chkL G e.kids).2 ≠ 0 then (0, (chkL G e.kids).2) else kindX e (chkL G e.kids).1 fs := by rw [hG]; rfl
    have hgood := chkL_good G e.kids
    have hbad := chkL_bad G e.kids
    have hcall : ∀ (j : Nat) (hj : j < e.kids.length) A' c' W, ExK w D A' c' e.kids[j] → Below w.heap.size w W → Calls Tryz.prog 146 #[agX e.kids[j].op A' e.kids[j].kids.length c' e.kids[j].name e.kids[j].val, .slice FA fs.length FC] W (VMk (pairII (G e.kids[j])) W) :=
      fun j hj A' c' W hx hB => by rw [hG]; exact ih d e.kids[j] A' c' W (hx.below hB (Nat.le_refl _)) (hf.below hB (Nat.le_refl _)) (hkids j hj).1 (hkids j hj).2
    have hkind : ∀ KA kc W, RdI W KA kc (e.kids.map fun k => (G k).1) → Below w.heap.size w W → Calls Tryz.prog 198 #[agX e.op A e.kids.length c e.name e.val, .slice KA e.kids.length kc, .slice FA fs.length FC] W (VMk (pairII (kindX e (e.kids.map fun k => (G k).1) fs)) W) :=
      fun KA kc W h hB => rkind_any e A c KA kc _ FA FC fs W h (by simp) (hf.below hB (Nat.le_refl _))
    generalize chkX (d + 1) e fs = RES at hchk ⊢
    generalize hKX : kindX e (e.kids.map fun k => (G k).1) fs = KX at hkind
    have hres0 : (∀ (j : Nat) (hj : j < e.kids.length), (G e.kids[j]).2 = 0) → RES = KX := fun h => by
      rw [hchk, hgood h, if_neg (fun h => h rfl), hKX]
    have hres1 : ∀ (k : Nat) (hk : k < e.kids.length), (∀ (j : Nat) (hj : j < k), (G (e.kids[j]'(Nat.lt_trans hj hk))).2 = 0) → (G e.kids[k]).2 ≠ 0 → RES = (0, (G e.kids[k]).2) := fun k hk h hne => by
      have := hbad k hk h hne
      rw [hchk, if_pos (by rw [this]; exact hne), this]
    clear ih hkids hsize hdeep hG hgood hbad hchk hKX
    generalize e.kids = ks at *
    generalize e.op = eop at *
    generalize e.name = enm at *
    generalize e.val = ev at *
    have hsf := fun (w : World) (a : Addr) (m : Mode) (b : Nat) => run_store Tryz.prog w a (.float .f64 b) m rfl
    have HCALL := Lib.hid hcall
    have HKIND := Lib.hid hkind
    have HRES0 := Lib.hid hres0
    have HRES1 := Lib.hid hres1
    have H5 := Lib.hid h5
    have H23 := Lib.hid h23
    have HB0 := Lib.hid (alloc1 w (bxX eop A ks.length c enm ev))
    have HK0 := Lib.hid (Kid_new w eop A ks.length c enm ev)
    clear hcall hkind hres0 hres1 h5 h23 hf h2 h3 h4
    go_enter Tryz.func146, Tryz.ntmps146
    go_upto_region 1 with fail
    generalize hw1 : w.alloc (bxX eop A ks.length c enm ev) = w1 at *
    have HBR := Lib.hid (Below.refl w1.heap.size w1)
    clear hw1
    go_wp2
    go_loopw [6, 7] (fun sv i wr => ∃ k : Nat, k ≤ ks.length ∧ i = .int .i64 k ∧ (∀ (j : Nat) (hj : j < ks.length), j < k → (G ks[j]).2 = 0) ∧ wr.ownsRow w1.heap.size 3 1 sv k (((ks.take k).map fun q => (G q).1).map (Value.int .i64)) ∧ Below w1.heap.size w1 wr) (fun _ i _ => ks.length - (intOf i).toNat)
    case atStart => exact ⟨0, Nat.zero_le _, rfl, fun j hj h => absurd h (Nat.not_lt_zero _), World.ownsRow_nil _ _ _ _, HBR.out⟩
    case round =>
      obtain ⟨k, hk, rfl, hall, hown, hb⟩ := hrel
      have HB := Lib.hid hb
      have HALL := Lib.hid hall
      obtain ⟨d0, d1, d2, d3, d4, d5, d6, d7⟩ := HK0.out.below hb
      clear hb hall
      by_cases hlt : k < ks.length
      · obtain ⟨ad, A', c', rfl, hbl, hkid, hsub⟩ := H5.out k hlt
        obtain ⟨q0, q1, q2, q3, q4, q5, q6, q7⟩ := hkid.below (bel2 HB0.out HB.out) (by rw [block_add]; exact hbl)
        have hltI : (k : Int) < (ks.length : Int) := by omega
        have hcall := HCALL.out k hlt A' c' wr hsub (bel2 HB0.out HB.out)
        have HT := Lib.hid (show ((ks.take (k + 1)).map fun q => (G q).1) = ((ks.take k).map fun q => (G q).1) ++ [(G ks[k]).1] by rw [List.take_succ_eq_append_getElem hlt, List.map_append]; rfl)
        have HN := Lib.hid (show (G ks[k]).2 = 0 → ∀ (j : Nat) (hj : j < ks.length), j < k + 1 → (G ks[j]).2 = 0 from fun h0 j hj hjk => by
          by_cases hjk2 : j < k
          · exact HALL.out j hj hjk2
          · obtain rfl : j = k := by omega
            exact h0)
        have HR := Lib.hid (show (G ks[k]).2 ≠ 0 → RES = (0, (G ks[k]).2) from fun hne => HRES1.out k hlt (fun j hj => HALL.out j (by omega) hj) hne)
        clear hkid hsub
        generalize G ks[k] = r at *
        generalize ks[k].op = xop at *
        generalize ks[k].kids.length = xn at *
        generalize ks[k].name = xnm at *
        generalize ks[k].val = xv at *
        obtain ⟨rk, re⟩ := r
        obtain ⟨As, cs, e, -⟩ := kids_own (k := k) hown (by rw [List.length_map, List.length_take]; omega)
        subst e
        have HC := Lib.hid hcall
        have HO := Lib.hid hown
        clear hcall hown
        by_cases he : re = 0
        · subst he
          have hne0 : ((0 : Int) != 0) = false := rfl
          go_wp2_with (first
            | (go_at_call 146; refine HC.out.mono ?_; rintro e w2 ⟨rfl, hb2⟩; have HB2 := Lib.hid (bel2 HB.out hb2); have HO2 := Lib.hid (own_belowX (own_belowX HO.out hb2) (alloc1 w2 (.cells #[.int .i64 rk] 3))); have HB3 := Lib.hid (bel2 HB2.out (alloc1 w2 (.cells #[.int .i64 rk] 3))); have hk23 := H23.out; clear hb2)
            | (at_builtin; refine wpList_append_rd _ rfl (.tmp 30) (.tmp 32) 43 rfl w1.heap.size 3 i0 (.int .i64 0) 8 Tryz.underlying43 hi hz0 hz1 hz2 rfl _ _ _ rfl HO2.out _ _ rfl (Rd.one _ _ _) (by intro u hu; simp at hu; subst hu; rfl) (by simp; unfold maxLen; omega) (by simp; omega) HB3.out.size ?_; intro v3 w3 hown3 hg3))
          have HB4 := Lib.hid (HB3.out.grown hg3 HB3.out.size (fun g hg => (HO2.out.lt g hg).1))
          have hown4 : w3.ownsRow w1.heap.size 3 1 v3 (k + 1) (((ks.take (k + 1)).map fun q => (G q).1).map (Value.int .i64)) := by
            rw [HT.out, List.map_append]
            simpa using hown3
          clear hg3 hown3
          go_roundw
          case rel => exact ⟨k + 1, by omega, by go_num, HN.out (by first | rfl | trivial), hown4, HB4.out⟩
          case measure => simp [intOf]; omega
        · have hne0 : (re != 0) = true := by simpa using he
          have HE := Lib.hid (HR.out he)
          clear he
          go_wp2_with (first
            | fail
            | (go_at_call 146; refine HC.out.mono ?_; rintro e w2 ⟨rfl, hb2⟩))
          exact bodyPost_ret (v := pairII (0, re)) (by simp [results, Tryz.results146, go_sem]) rfl ⟨by rw [HE.out], bel2 (bel2 HB0.out HB.out) hb2⟩
      · obtain rfl : k = ks.length := by omega
        have hltI : ¬ (ks.length : Int) < (ks.length : Int) := by omega
        rw [List.take_length] at hown
        obtain ⟨KA, kc, e, hrd⟩ := kids_own (k := ks.length) hown (by simp)
        subst e
        have HKD := Lib.hid (HKIND.out KA kc wr hrd (bel2 HB0.out HB.out))
        have HE := Lib.hid (HRES0.out (fun j hj => HALL.out j hj hj))
        clear hown hrd
        obtain ⟨kx1, kx2⟩ := KX
        go_wp2_with (go_at_call 198; refine HKD.out.mono ?_; rintro e w2 ⟨rfl, hb2⟩)
        exact bodyPost_ret (v := pairII (kx1, kx2)) (by simp [results, Tryz.results146, go_sem]) rfl ⟨by rw [HE.out], bel2 (bel2 HB0.out HB.out) hb2⟩

theorem reCheck_any (FA : Option Addr) (FC : Nat) (fs : List Fd) (D : Nat) (e : Ex) (A : Option Addr) (c : Nat) (w : World) (hx : ExK w D A c e) (hf : FdK w FA FC fs) :
    Calls Tryz.prog 84 #[agX e.op A e.kids.length c e.name e.val, .slice FA fs.length FC] w (VMk (pairII (checkX e fs)) w) := by
  have hs := fun W (hb : Below w.heap.size w W) => rSmall_any D e A c W (hx.below hb (Nat.le_refl _))
  have hc : smallX e = true → ∀ W, Below w.heap.size w W → Calls Tryz.prog 146 #[agX e.op A e.kids.length c e.name e.val, .slice FA fs.length FC] W (VMk (pairII (chkX 6 e fs)) W) := fun h W hb => by
    obtain ⟨h1, h2⟩ := (smallX_iff e).1 h
    exact rcheck_any FA FC fs D 6 e A c W (hx.below hb (Nat.le_refl _)) (hf.below hb (Nat.le_refl _)) h1 h2
  have hr : checkX e fs = if smallX e then chkX 6 e fs else (0, 51) := rfl
  rw [hr]
  generalize chkX 6 e fs = r at hc ⊢
  generalize smallX e = b at hs hc ⊢
  generalize e.kids.length = n at *
  generalize e.op = eop at *
  generalize e.name = enm at *
  generalize e.val = ev at *
  have hb0 : ∀ o, Below w.heap.size w (w.alloc o) := fun o => (Below.refl _ _).alloc (Nat.le_refl _) _
  have HS := Lib.hid hs
  clear hs hr hx hf
  have hsf := fun (w : World) (a : Addr) (m : Mode) (b : Nat) => run_store Tryz.prog w a (.float .f64 b) m rfl
  rcases b with _ | _
  · clear hc
    rw [if_neg (by decide)]
    go_enter Tryz.func84, Tryz.ntmps84
    go_wp2_with (go_at_call 145; refine (HS.out _ (hb0 _)).mono ?_; rintro e w1 ⟨rfl, hb1⟩)
    exact bodyPost_ret (v := pairII (0, 51)) (by simp [results, Tryz.results84, go_sem]) rfl ⟨rfl, bel2 (hb0 _) hb1⟩
  · have hc := hc rfl
    have HC := Lib.hid hc
    clear hc
    rw [if_pos rfl]
    obtain ⟨r1, r2⟩ := r
    go_enter Tryz.func84, Tryz.ntmps84
    go_wp2_with (first
      | (go_at_call 145; refine (HS.out _ (hb0 _)).mono ?_; rintro e w1 ⟨rfl, hb1⟩; obtain ⟨d0, d1, d2, d3, d4, d5, d6, d7⟩ := (Kid_new w eop A n c enm ev).below hb1)
      | (go_at_call 146; refine (HC.out _ (bel2 (hb0 _) hb1)).mono ?_; rintro e w2 ⟨rfl, hb2⟩))
    exact bodyPost_ret (v := pairII (r1, r2)) (by simp [results, Tryz.results84, go_sem]) rfl ⟨rfl, bel2 (bel2 (hb0 _) hb1) hb2⟩

theorem effs_iff (fs : List Fd) (es : List Eff) : effsR fs es = true ↔ es.length ≤ 4 ∧ ∀ (j : Nat) (hj : j < es.length), effR fs es[j] = true ∧ ∀ (m : Nat) (hm : m < j), ((es[m]'(by omega)).field.toList == es[j].field.toList) = false := by
  unfold effsR
  rw [Bool.and_eq_true, Bool.and_eq_true, decide_eq_true_eq, onceN_apart, List.all_eq_true]
  constructor
  · rintro ⟨⟨h1, h2⟩, h3⟩
    refine ⟨by omega, fun j hj => ⟨h3 _ (List.getElem_mem hj), fun m hm => ?_⟩⟩
    have := h2 j (by simpa using hj) m hm
    simpa using this
  · rintro ⟨h1, h2⟩
    refine ⟨⟨by omega, fun j hj m hm => ?_⟩, fun e he => ?_⟩
    · have hj' : j < es.length := by simpa using hj
      have := (h2 j hj').2 m hm
      simpa using this
    · obtain ⟨j, hj, rfl⟩ := List.getElem_of_mem he
      exact (h2 j hj).1
def moveD (c : Ctr) (m : Mv) : Bool :=
  ((decide (0 ≤ m.frm) && decide (m.frm ≤ (c.ss.length : Int) - 1)) && (decide (0 ≤ m.too) && decide (m.too ≤ (c.ss.length : Int) - 1)) && (decide (-1 ≤ m.org) && decide (m.org ≤ 3))) && tellsR m.guard (c.fs.map Fld.f) 2 && effsR (c.fs.map Fld.f) m.effs
theorem moveR_D (c : Ctr) (m : Mv) : moveR c m = (nameB m.name && moveD c m) := by
  unfold moveR moveD
  simp only [Bool.and_assoc]
theorem moveD_iff (c : Ctr) (m : Mv) : moveD c m = true ↔ (0 ≤ m.frm ∧ m.frm < (c.ss.length : Int)) ∧ (0 ≤ m.too ∧ m.too < (c.ss.length : Int)) ∧ (-1 ≤ m.org ∧ m.org < 4) ∧ tellsR m.guard (c.fs.map Fld.f) 2 = true ∧ m.effs.length ≤ 4 ∧ ∀ (j : Nat) (hj : j < m.effs.length), effR (c.fs.map Fld.f) m.effs[j] = true ∧ ∀ (k : Nat) (hk : k < j), ((m.effs[k]'(by omega)).field.toList == m.effs[j].field.toList) = false := by
  unfold moveD
  simp only [Bool.and_eq_true, decide_eq_true_eq, effs_iff]
  constructor
  · rintro ⟨⟨⟨⟨⟨h1, h2⟩, h3, h4⟩, h5, h6⟩, h7⟩, h8⟩
    exact ⟨⟨h1, by omega⟩, ⟨h3, by omega⟩, ⟨h5, by omega⟩, h7, h8⟩
  · rintro ⟨⟨h1, h2⟩, ⟨h3, h4⟩, ⟨h5, h6⟩, h7, h8⟩
    exact ⟨⟨⟨⟨⟨h1, by omega⟩, h3, by omega⟩, h5, by omega⟩, h7⟩, h8⟩
set_option maxHeartbeats 8000000 in
theorem rmove_any (x : Mv) (A : Option Addr) (c : Nat) (EA : Option Addr) (ec : Nat) (ct : Ctr) (FA : Option Addr) (fc : Nat) (SA : Option Addr) (sc : Nat) (MA : Option Addr) (mc : Nat) (w : World) (hx : ExE w A c x.guard ∧ EffK w EA ec x.effs) (h : CtK w ct FA fc SA sc MA mc) :
    Calls Tryz.prog 44 #[agC ct.name FA ct.fs.length fc SA ct.ss.length sc MA ct.ms.length mc, agMv x A c EA ec] w (VMk (.bool (moveD ct x)) w) := by
  have HB0 := Lib.hid (bel2 (alloc1 w (bxC ct.name FA ct.fs.length fc SA ct.ss.length sc MA ct.ms.length mc)) (alloc1 (w.alloc (bxC ct.name FA ct.fs.length fc SA ct.ss.length sc MA ct.ms.length mc)) (.cells (csMv x A c EA ec).toArray 80)))
  have HC := Lib.hid ((BxA.new w (csC ct.name FA ct.fs.length fc SA ct.ss.length sc MA ct.ms.length mc) 33).below (alloc1 (w.alloc (bxC ct.name FA ct.fs.length fc SA ct.ss.length sc MA ct.ms.length mc)) (.cells (csMv x A c EA ec).toArray 80)))
  have HM := Lib.hid (BxA.new (w.alloc (bxC ct.name FA ct.fs.length fc SA ct.ss.length sc MA ct.ms.length mc)) (csMv x A c EA ec) 80)
  rw [size1] at HM
  have HY := Lib.hid (tell_yes (moveD_iff ct x))
  have HZ := Lib.hid (tell_no (moveD_iff ct x))
  generalize moveD ct x = R at *
  have HEB := Lib.hid (show ∀ (j : Nat) (hj : j < x.effs.length), effR (ct.fs.map Fld.f) x.effs[j] = false → Ending.returned (.bool false) = .returned (.bool R) from fun j hj h => HZ.out (fun hm => by have := (hm.2.2.2.2.2 j hj).1; rw [h] at this; cases this))
  have HEO := Lib.hid (show ∀ (j : Nat) (hj : j < x.effs.length) (m : Nat) (hm : m < j), ((x.effs[m]'(by omega)).field.toList == x.effs[j].field.toList) = true → Ending.returned (.bool false) = .returned (.bool R) from fun j hj m hm h => HZ.out (fun h2 => by have := (h2.2.2.2.2.2 j hj).2 m hm; rw [h] at this; cases this))
  have hgf : ∀ (nm : ByteArray) W, Below w.heap.size w W → Calls Tryz.prog 81 #[agC ct.name FA ct.fs.length fc SA ct.ss.length sc MA ct.ms.length mc, .string nm] W (VMk (.int .i64 (findX nm (ct.fs.map Fld.f) 0)) W) := fun nm W hb => by
    have h := rField_any ct FA fc SA sc MA mc nm W (h.below hb)
    rwa [find_map] at h
  have hck : ∀ (e : Ex) (A : Option Addr) (c : Nat) W, Below w.heap.size w W → ExE W A c e → Calls Tryz.prog 84 #[agX e.op A e.kids.length c e.name e.val, .slice FA ct.fs.length fc] W (VMk (pairII (checkX e (ct.fs.map Fld.f))) W) := fun e A c W hb hx => by
    obtain ⟨D, hx⟩ := hx
    have h := reCheck_any FA fc (ct.fs.map Fld.f) D e A c W hx ((h.below hb).f.fdk)
    rwa [List.length_map] at h
  have HFD := Lib.hid hgf
  have HCK := Lib.hid hck
  have HGD := Lib.hid (fun W hb => hck x.guard A c W hb (hx.1.below hb))
  have hm := hx.2.2.1
  have hm1 := hx.2.1
  unfold maxLen at hm
  have hlen : x.effs.length ≤ 9223372036854775807 := by omega
  have HX := Lib.hid hx.2.2.2.2
  have HFR := Lib.hid h.f.2.2.2
  have hsl := h.s.2.1
  have hsl1 := h.s.1
  unfold maxLen at hsl
  have hslen : ct.ss.length ≤ 9223372036854775807 := by omega
  have hfl := h.f.2.1
  have hfl1 := h.f.1
  unfold maxLen at hfl
  have hflen : ct.fs.length ≤ 9223372036854775807 := by omega
  clear hgf hck hx h hm hm1 hsl hsl1 hfl hfl1
  have hT : tellsR x.guard (ct.fs.map Fld.f) 2 = (((checkX x.guard (ct.fs.map Fld.f)).2 == 0) && ((checkX x.guard (ct.fs.map Fld.f)).1 == 2)) := rfl
  generalize checkX x.guard (ct.fs.map Fld.f) = gk at *
  obtain ⟨gk, ge⟩ := gk
  have HTT := Lib.hid hT
  clear hT
  have hsf := fun (w : World) (a : Addr) (m : Mode) (b : Nat) => run_store Tryz.prog w a (.float .f64 b) m rfl
  go_enter Tryz.func44, Tryz.ntmps44
  go_upto_region 1 with fail
  generalize hw0 : (w.alloc (bxC ct.name FA ct.fs.length fc SA ct.ss.length sc MA ct.ms.length mc)).alloc (.cells (csMv x A c EA ec).toArray 80) = w0 at *
  clear hw0
  have HBR := Lib.hid (Below.refl w0.heap.size w0)
  have c1 := HC.out.2 1 _ rfl
  have c2 := HC.out.2 2 _ rfl
  have q1 := HM.out.2 1 _ rfl
  have q2 := HM.out.2 2 _ rfl
  have q3 := HM.out.2 3 _ rfl
  have q4 := HM.out.2 4 _ rfl
  have q5 := HM.out.2 5 _ rfl
  have q6 := HM.out.2 6 _ rfl
  have q7 := HM.out.2 7 _ rfl
  have q8 := HM.out.2 8 _ rfl
  have q9 := HM.out.2 9 _ rfl
  have q10 := HM.out.2 10 _ rfl
  have q11 := HM.out.2 11 _ rfl
  have q12 := HM.out.2 12 _ rfl
  by_cases hk0 : x.frm < 0
  · have hkd : decide (x.frm < 0) = true := decide_eq_true hk0
    have HK := Lib.hid hk0
    go_wp2
    go_ret
    exact ⟨HZ.out (fun hm => by have := HK.out; have := hm.1.1; omega), HB0.out⟩
  have hkd0 : decide (x.frm < 0) = false := decide_eq_false hk0
  by_cases hk1 : (ct.ss.length : Int) ≤ x.frm
  · have hkd : decide ((ct.ss.length : Int) ≤ x.frm) = true := decide_eq_true hk1
    have HK := Lib.hid hk1
    go_wp2
    go_ret
    exact ⟨HZ.out (fun hm => by have := HK.out; have := hm.1.2; omega), HB0.out⟩
  have hkd1 : decide ((ct.ss.length : Int) ≤ x.frm) = false := decide_eq_false hk1
  by_cases hk2 : x.too < 0
  · have hkd : decide (x.too < 0) = true := decide_eq_true hk2
    have HK := Lib.hid hk2
    go_wp2
    go_ret
    exact ⟨HZ.out (fun hm => by have := HK.out; have := hm.2.1.1; omega), HB0.out⟩
  have hkd2 : decide (x.too < 0) = false := decide_eq_false hk2
  by_cases hk3 : (ct.ss.length : Int) ≤ x.too
  · have hkd : decide ((ct.ss.length : Int) ≤ x.too) = true := decide_eq_true hk3
    have HK := Lib.hid hk3
    go_wp2
    go_ret
    exact ⟨HZ.out (fun hm => by have := HK.out; have := hm.2.1.2; omega), HB0.out⟩
  have hkd3 : decide ((ct.ss.length : Int) ≤ x.too) = false := decide_eq_false hk3
  by_cases hk4 : x.org < -1
  · have hkd : decide (x.org < -1) = true := decide_eq_true hk4
    have HK := Lib.hid hk4
    go_wp2
    go_ret
    exact ⟨HZ.out (fun hm => by have := HK.out; have := hm.2.2.1.1; omega), HB0.out⟩
  have hkd4 : decide (x.org < -1) = false := decide_eq_false hk4
  by_cases hk5 : 4 ≤ x.org
  · have hkd : decide (4 ≤ x.org) = true := decide_eq_true hk5
    have HK := Lib.hid hk5
    go_wp2
    go_ret
    exact ⟨HZ.out (fun hm => by have := HK.out; have := hm.2.2.1.2; omega), HB0.out⟩
  have hkd5 : decide (4 ≤ x.org) = false := decide_eq_false hk5
  by_cases hk6 : (4 : Int) < (x.effs.length : Int)
  · have hkd : decide ((4 : Int) < (x.effs.length : Int)) = true := decide_eq_true hk6
    have HK := Lib.hid hk6
    go_wp2
    go_ret
    exact ⟨HZ.out (fun hm => by have := HK.out; have := hm.2.2.2.2.1; omega), HB0.out⟩
  have hkd6 : decide ((4 : Int) < (x.effs.length : Int)) = false := decide_eq_false hk6
  have HR1 := Lib.hid (show (0 ≤ x.frm ∧ x.frm < (ct.ss.length : Int)) ∧ (0 ≤ x.too ∧ x.too < (ct.ss.length : Int)) ∧ (-1 ≤ x.org ∧ x.org < 4) ∧ x.effs.length ≤ 4 by omega)
  by_cases hge : ge = 0
  case neg =>
    have hgb : (ge != 0) = true := by simpa using hge
    have HGE := Lib.hid hge
    clear hge
    go_wp2_with (first | fail | (go_at_call 84; refine (HGD.out _ HB0.out).mono ?_; rintro e w1 ⟨rfl, hb1⟩))
    go_ret
    exact ⟨HZ.out (fun hm => by have h := hm.2.2.2.1; rw [HTT.out, Bool.and_eq_true] at h; exact HGE.out (by simpa using h.1)), bel2 HB0.out hb1⟩
  have hgb : (ge != 0) = false := by rw [hge]; rfl
  by_cases hgk : gk = 2
  case neg =>
    have hgc : (gk != 2) = true := by simpa using hgk
    have HGE := Lib.hid hgk
    clear hge hgk
    go_wp2_with (first | fail | (go_at_call 84; refine (HGD.out _ HB0.out).mono ?_; rintro e w1 ⟨rfl, hb1⟩))
    go_ret
    exact ⟨HZ.out (fun hm => by have h := hm.2.2.2.1; rw [HTT.out, Bool.and_eq_true] at h; exact HGE.out (by simpa using h.2)), bel2 HB0.out hb1⟩
  have hgc : (gk != 2) = false := by rw [hgk]; rfl
  have HT2 := Lib.hid (show tellsR x.guard (ct.fs.map Fld.f) 2 = true by rw [HTT.out, hge, hgk]; rfl)
  clear hge hgk HTT
  go_wp2_with (first | fail | (go_at_call 84; refine (HGD.out _ HB0.out).mono ?_; rintro e w1 ⟨rfl, hb1⟩))
  have HB1 := Lib.hid hb1
  clear hk0 hkd0 hk1 hkd1 hk2 hkd2 hk3 hkd3 hk4 hkd4 hk5 hkd5 hk6 hkd6
  clear hb1 c1 c2 q1 q2 q3 q4 q5 q6 q7 q8 q9 q10 q11 q12
  go_loopw [7] (fun i wr => ∃ k : Nat, k ≤ x.effs.length ∧ i = .int .i64 k ∧ (∀ (j : Nat) (hj : j < x.effs.length), j < k → effR (ct.fs.map Fld.f) x.effs[j] = true ∧ ∀ (m : Nat) (hm : m < j), ((x.effs[m]'(by omega)).field.toList == x.effs[j].field.toList) = false) ∧ Below w0.heap.size w0 wr) (fun i _ => x.effs.length - (intOf i).toNat)
  case atStart => exact ⟨0, Nat.zero_le _, rfl, fun j hj h => absurd h (Nat.not_lt_zero _), HB1.out⟩
  case round =>
    obtain ⟨k, hk, rfl, hdone, hb⟩ := hrel
    have HDONE := Lib.hid hdone
    have HB := Lib.hid hb
    clear hdone hb
    have q11 := (HM.out.below HB.out).2 11 _ rfl
    by_cases hlt : k < x.effs.length
    case neg =>
      obtain rfl : k = x.effs.length := by omega
      have hltI : ¬ (x.effs.length : Int) < (x.effs.length : Int) := by omega
      go_wp2
      go_ret
      exact ⟨HY.out ⟨HR1.out.1, HR1.out.2.1, HR1.out.2.2.1, HT2.out, HR1.out.2.2.2, fun j hj => HDONE.out j hj hj⟩, bel2 HB0.out HB.out⟩
    have hltI : (k : Int) < (x.effs.length : Int) := by omega
    obtain ⟨ad, rfl, hbl, -⟩ := HX.out k hlt
    have HAT := Lib.hid (show ∀ W (hb : Below w.heap.size w W) (j : Nat) (hj : j < x.effs.length), EffP W (ad.add (j * 9)) x.effs[j] from fun W hb j hj => by
      obtain ⟨ad2, e, hbl2, hp⟩ := HX.out j hj
      injection e with e
      subst e
      exact EffP.below hp hb (by rw [block_add]; exact hbl2))
    have HEBK := Lib.hid (HEB.out k hlt)
    have HNEW := Lib.hid (show effR (ct.fs.map Fld.f) x.effs[k] = true → (∀ (m : Nat) (hm : m < k), ((x.effs[m]'(by omega)).field.toList == x.effs[k].field.toList) = false) → ∀ (j : Nat) (hj : j < x.effs.length), j < k + 1 → effR (ct.fs.map Fld.f) x.effs[j] = true ∧ ∀ (m : Nat) (hm : m < j), ((x.effs[m]'(by omega)).field.toList == x.effs[j].field.toList) = false from fun h1 h2 j hj hjk => by
      by_cases e : j < k
      · exact HDONE.out j hj e
      · obtain rfl : j = k := by omega
        exact ⟨h1, h2⟩)
    have HATF := Lib.hid (show ∀ W (hb : Below w.heap.size w W) (j : Nat) (hj : j < x.effs.length), W.cell? (ad.add (j * 9)) = some (.string x.effs[j].field) from fun W hb j hj => by
      obtain ⟨A, c, h, -⟩ := HAT.out W hb j hj
      exact h)
    obtain ⟨A2, c2, hp0, hpk, hpe⟩ := HAT.out w (Below.refl _ _) k hlt
    have HP0 := Lib.hid (show ∀ W, Below w.heap.size w W → _ from fun W hb => cellp (p := ad.add (k * 9)) hb (by rw [block_add]; exact hbl) hp0)
    have HPK := Lib.hid (show ∀ W, Below w.heap.size w W → _ from fun W hb => hpk.below hb (by show (ad.add (k * 9)).block < _; rw [block_add]; exact hbl))
    have HPE := Lib.hid (show ∀ W, Below w.heap.size w W → _ from fun W hb => hpe.below hb)
    clear hp0 hpk hpe
    have HEOK := Lib.hid (show ∀ (m : Nat) (hm : m < k), ((x.effs[m]'(by omega)).field.toList == x.effs[k].field.toList) = true → _ from fun m hm => HEO.out k hlt m hm)
    have HATK := Lib.hid (fun W hb => HATF.out W hb k hlt)
    have hef : effR (ct.fs.map Fld.f) x.effs[k] = (decide (0 ≤ findX x.effs[k].field (ct.fs.map Fld.f) 0) && tellsR x.effs[k].e (ct.fs.map Fld.f) ((((ct.fs.map Fld.f)[(findX x.effs[k].field (ct.fs.map Fld.f) 0).toNat]?).map Fd.kind).getD 0)) := rfl
    generalize x.effs[k] = y at *
    have HK1 := Lib.hid (show ∀ W, Below w0.heap.size w0 W → (fun W => Below w0.heap.size w0 W ∧ W.cell? ⟨w.heap.size, 0, none⟩ = some (.string ct.name) ∧ W.cell? ⟨w.heap.size, 1, none⟩ = some (.slice FA ct.fs.length fc) ∧ W.cell? ⟨w.heap.size, 2, none⟩ = some (.slice SA ct.ss.length sc) ∧ W.cell? ⟨w.heap.size, 3, none⟩ = some (.slice MA ct.ms.length mc) ∧ W.cell? ⟨w.heap.size + 1, 11, none⟩ = some (.slice (some ad) x.effs.length ec) ∧ W.cell? (ad.add (k * 9)) = some (.string y.field)) W from fun W h => ⟨h, (HC.out.below h).2 0 _ rfl, (HC.out.below h).2 1 _ rfl, (HC.out.below h).2 2 _ rfl, (HC.out.below h).2 3 _ rfl, (HM.out.below h).2 11 _ rfl, HP0.out W (bel2 HB0.out h)⟩)
    have HK2 := Lib.hid (show ∀ W, Below w0.heap.size w0 W → (fun W => Below w0.heap.size w0 W ∧ W.cell? ⟨w.heap.size, 0, none⟩ = some (.string ct.name) ∧ W.cell? ⟨w.heap.size, 1, none⟩ = some (.slice FA ct.fs.length fc) ∧ W.cell? ⟨w.heap.size, 2, none⟩ = some (.slice SA ct.ss.length sc) ∧ W.cell? ⟨w.heap.size, 3, none⟩ = some (.slice MA ct.ms.length mc) ∧ W.cell? ⟨w.heap.size + 1, 11, none⟩ = some (.slice (some ad) x.effs.length ec) ∧ W.cell? ⟨(ad.add (k * 9)).block, (ad.add (k * 9)).off + 1, none⟩ = some (.int .i64 y.e.op) ∧ W.cell? ⟨(ad.add (k * 9)).block, (ad.add (k * 9)).off + 1 + 1, none⟩ = some (.slice A2 y.e.kids.length c2) ∧ W.cell? ⟨(ad.add (k * 9)).block, (ad.add (k * 9)).off + 1 + 2, none⟩ = some (.string y.e.name) ∧ W.cell? ⟨(ad.add (k * 9)).block, (ad.add (k * 9)).off + 1 + 3, none⟩ = some (.int .i64 y.e.val.k) ∧ W.cell? ⟨(ad.add (k * 9)).block, (ad.add (k * 9)).off + 1 + 4, none⟩ = some (.int .i64 y.e.val.i) ∧ W.cell? ⟨(ad.add (k * 9)).block, (ad.add (k * 9)).off + 1 + 5, none⟩ = some (.bool y.e.val.b) ∧ W.cell? ⟨(ad.add (k * 9)).block, (ad.add (k * 9)).off + 1 + 6, none⟩ = some (.string y.e.val.s) ∧ W.cell? ⟨(ad.add (k * 9)).block, (ad.add (k * 9)).off + 1 + 7, none⟩ = some (.float .f64 y.e.val.n)) W from fun W h => ⟨h, (HC.out.below h).2 0 _ rfl, (HC.out.below h).2 1 _ rfl, (HC.out.below h).2 2 _ rfl, (HC.out.below h).2 3 _ rfl, (HM.out.below h).2 11 _ rfl, (HPK.out W (bel2 HB0.out h)).1, (HPK.out W (bel2 HB0.out h)).2.1, (HPK.out W (bel2 HB0.out h)).2.2.1, (HPK.out W (bel2 HB0.out h)).2.2.2.1, (HPK.out W (bel2 HB0.out h)).2.2.2.2.1, (HPK.out W (bel2 HB0.out h)).2.2.2.2.2.1, (HPK.out W (bel2 HB0.out h)).2.2.2.2.2.2.1, (HPK.out W (bel2 HB0.out h)).2.2.2.2.2.2.2⟩)
    have HG := Lib.hid (fun W (hb : Below w0.heap.size w0 W) => HFD.out y.field W (bel2 HB0.out hb))
    have HGC := Lib.hid (fun W (hb : Below w0.heap.size w0 W) => HCK.out y.e A2 c2 W (bel2 HB0.out hb) (HPE.out W (bel2 HB0.out hb)))
    have hge := placeN_ge y.field ((ct.fs.map Fld.f).map Fd.name) 0
    have hlf := placeN_lt y.field ((ct.fs.map Fld.f).map Fd.name) 0
    rw [← findX_place] at hge hlf
    rw [List.length_map, List.length_map] at hlf
    generalize findX y.field (ct.fs.map Fld.f) 0 = i at *
    go_upto_region 9 with fail
    have HS0 := Lib.hid (HK1.out wr.drew (bel2 HB.out (Below.refl _ _).drew))
    go_region_held3 (fun W => Below w0.heap.size w0 W ∧ W.cell? ⟨w.heap.size, 0, none⟩ = some (.string ct.name) ∧ W.cell? ⟨w.heap.size, 1, none⟩ = some (.slice FA ct.fs.length fc) ∧ W.cell? ⟨w.heap.size, 2, none⟩ = some (.slice SA ct.ss.length sc) ∧ W.cell? ⟨w.heap.size, 3, none⟩ = some (.slice MA ct.ms.length mc) ∧ W.cell? ⟨w.heap.size + 1, 11, none⟩ = some (.slice (some ad) x.effs.length ec) ∧ W.cell? (ad.add (k * 9)) = some (.string y.field)) (first | exact HS0.out | exact HK1.out _ HB2.out) (first
      | (go_at_call 81; refine (HG.out _ (bel2 HB.out (Below.refl _ _).drew)).mono ?_; rintro e w2 ⟨rfl, hb2⟩; have HB2 := Lib.hid (bel2 (bel2 HB.out (Below.refl _ _).drew) hb2)))
    by_cases h0 : i < 0
    · have hEF : effR (ct.fs.map Fld.f) y = false := by rw [hef]; have hd : decide (0 ≤ i) = false := decide_eq_false (by omega); rw [hd]; rfl
      have HEF := Lib.hid hEF
      clear hEF hef
      go_wp2
      go_ret
      exact ⟨HEBK.out HEF.out, bel2 HB0.out HB2.out⟩
    obtain ⟨fi, rfl⟩ := Int.eq_ofNat_of_zero_le (show 0 ≤ i by omega)
    have hfi : fi < ct.fs.length := by omega
    have hfiI : (fi : Int) < (ct.fs.length : Int) := by omega
    have hd : decide ((0 : Int) ≤ (fi : Int)) = true := decide_eq_true (by omega)
    have hkd : ((((ct.fs.map Fld.f)[((fi : Int)).toNat]?).map Fd.kind).getD 0) = ct.fs[fi].f.kind := by
      rw [Int.toNat_natCast, List.getElem?_map, List.getElem?_eq_getElem hfi]; rfl
    rw [hkd, hd, Bool.true_and] at hef
    obtain ⟨fad, rfl, fbl, FPA, fpc, fq, -⟩ := HFR.out fi hfi
    have HFK := Lib.hid (show ∀ W, Below w.heap.size w W → _ from fun W hb => (fq.below hb (by rw [block_add]; exact fbl)).2.1)
    clear hkd hd fq hge hlf
    generalize ct.fs[fi].f.kind = fk at *
    have hef2 : effR (ct.fs.map Fld.f) y = (((checkX y.e (ct.fs.map Fld.f)).2 == 0) && ((checkX y.e (ct.fs.map Fld.f)).1 == fk)) := hef
    have HEF := Lib.hid hef2
    clear hef hef2
    generalize checkX y.e (ct.fs.map Fld.f) = ck at *
    obtain ⟨ck, ce⟩ := ck
    go_wp2
    have HS2 := Lib.hid (HK2.out w2.drew (bel2 HB2.out (Below.refl _ _).drew))
    go_region_held3 (fun W => Below w0.heap.size w0 W ∧ W.cell? ⟨w.heap.size, 0, none⟩ = some (.string ct.name) ∧ W.cell? ⟨w.heap.size, 1, none⟩ = some (.slice (some fad) ct.fs.length fc) ∧ W.cell? ⟨w.heap.size, 2, none⟩ = some (.slice SA ct.ss.length sc) ∧ W.cell? ⟨w.heap.size, 3, none⟩ = some (.slice MA ct.ms.length mc) ∧ W.cell? ⟨w.heap.size + 1, 11, none⟩ = some (.slice (some ad) x.effs.length ec) ∧ W.cell? ⟨(ad.add (k * 9)).block, (ad.add (k * 9)).off + 1, none⟩ = some (.int .i64 y.e.op) ∧ W.cell? ⟨(ad.add (k * 9)).block, (ad.add (k * 9)).off + 1 + 1, none⟩ = some (.slice A2 y.e.kids.length c2) ∧ W.cell? ⟨(ad.add (k * 9)).block, (ad.add (k * 9)).off + 1 + 2, none⟩ = some (.string y.e.name) ∧ W.cell? ⟨(ad.add (k * 9)).block, (ad.add (k * 9)).off + 1 + 3, none⟩ = some (.int .i64 y.e.val.k) ∧ W.cell? ⟨(ad.add (k * 9)).block, (ad.add (k * 9)).off + 1 + 4, none⟩ = some (.int .i64 y.e.val.i) ∧ W.cell? ⟨(ad.add (k * 9)).block, (ad.add (k * 9)).off + 1 + 5, none⟩ = some (.bool y.e.val.b) ∧ W.cell? ⟨(ad.add (k * 9)).block, (ad.add (k * 9)).off + 1 + 6, none⟩ = some (.string y.e.val.s) ∧ W.cell? ⟨(ad.add (k * 9)).block, (ad.add (k * 9)).off + 1 + 7, none⟩ = some (.float .f64 y.e.val.n)) (first | exact HS2.out | exact HK2.out _ HB3.out) (first
      | (go_at_call 84; refine (HGC.out _ (bel2 HB2.out (Below.refl _ _).drew)).mono ?_; rintro e w3 ⟨rfl, hb3⟩; have HB3 := Lib.hid (bel2 (bel2 HB2.out (Below.refl _ _).drew) hb3)))
    have c1 := (HC.out.below HB3.out).2 1 _ rfl
    have fkc := HFK.out _ (bel2 HB0.out HB3.out)
    by_cases hce : ce = 0
    case neg =>
      have hcb : (ce != 0) = true := by simpa using hce
      have HGE := Lib.hid hce
      clear hce
      go_wp2
      go_ret
      exact ⟨HEBK.out (by rw [HEF.out]; have h := HGE.out; simp [h]), bel2 HB0.out HB3.out⟩
    have hcb : (ce != 0) = false := by rw [hce]; rfl
    by_cases hck2 : ck = fk
    case neg =>
      have hcc : (ck != fk) = true := by simpa using hck2
      have HGE := Lib.hid hck2
      clear hce hck2
      go_wp2
      go_ret
      exact ⟨HEBK.out (by rw [HEF.out]; have h := HGE.out; simp [h]), bel2 HB0.out HB3.out⟩
    have hcc : (ck != fk) = false := by rw [hck2]; simp
    have HEY := Lib.hid (show effR (ct.fs.map Fld.f) y = true by rw [HEF.out, hce, hck2]; simp)
    clear hce hck2 HEF
    go_wp2
    clear c1 fkc
    go_loopw [11] (fun i wr2 => ∃ m : Nat, m ≤ k ∧ i = .int .i64 m ∧ (∀ (m' : Nat) (hm : m' < k), m' < m → ((x.effs[m']'(by omega)).field.toList == y.field.toList) = false) ∧ Below w0.heap.size w0 wr2) (fun i _ => k - (intOf i).toNat)
    case atStart => exact ⟨0, Nat.zero_le _, rfl, fun j hj h => absurd h (Nat.not_lt_zero _), HB3.out⟩
    case round =>
      clear q11
      obtain ⟨m, hmk, rfl, hd2, hb2⟩ := hrel
      have HD2 := Lib.hid hd2
      have HBm := Lib.hid hb2
      clear hd2 hb2
      have q11 := (HM.out.below HBm.out).2 11 _ rfl
      by_cases hml : m < k
      · have hmI : (m : Int) < (k : Int) := by omega
        have hmx : m < x.effs.length := by omega
        have hmxI : (m : Int) < (x.effs.length : Int) := by omega
        have hcm := HATF.out _ (bel2 HB0.out HBm.out) m hmx
        have hck := HATK.out _ (bel2 HB0.out HBm.out)
        have HEOM := Lib.hid (HEOK.out m hml)
        generalize hzz : x.effs[m] = z at hcm HEOM
        rcases hd : (z.field.toList == y.field.toList) with _ | _
        · have HD := Lib.hid hd
          have HZZ := Lib.hid hzz
          clear hzz
          go_wp2
          go_quiet (fail)
          go_wp2
          go_roundw
          case rel => exact ⟨m + 1, by omega, by go_num, fun m' hm' hlt' => by
            by_cases e : m' < m
            · exact HD2.out m' hm' e
            · obtain rfl : m' = m := by omega
              rw [HZZ.out]; exact HD.out, below_drewN HBm.out _⟩
          case measure => simp [intOf]; omega
        · have HD := Lib.hid hd
          clear hzz
          go_wp2
          go_quiet (fail)
          go_wp2
          go_ret
          exact ⟨HEOM.out HD.out, bel2 HB0.out (below_drewN HBm.out _)⟩
      · obtain rfl : m = k := by omega
        have hmI : ¬ (m : Int) < (m : Int) := by omega
        go_wp2
        go_roundw
        case rel => exact ⟨m + 1, by omega, by go_num, HNEW.out HEY.out (fun m' hm' => HD2.out m' hm' hm'), HBm.out⟩
        case measure => simp [intOf]; omega

def MvP' (w : World) (p : Addr) (m : Mv) (A : Option Addr) (c : Nat) (EA : Option Addr) (ec : Nat) : Prop := w.cell? p = some (.string m.name) ∧ w.cell? ⟨p.block, p.off + 1, none⟩ = some (.int .i64 m.frm) ∧ w.cell? ⟨p.block, p.off + 2, none⟩ = some (.int .i64 m.too) ∧
  Kid w ⟨p.block, p.off + 3, none⟩ m.guard.op A m.guard.kids.length c m.guard.name m.guard.val ∧ w.cell? ⟨p.block, p.off + 11, none⟩ = some (.slice EA m.effs.length ec) ∧ w.cell? ⟨p.block, p.off + 12, none⟩ = some (.int .i64 m.org)
theorem MvP'.below {w w' : World} {p : Addr} {m : Mv} {A : Option Addr} {c : Nat} {EA : Option Addr} {ec : Nat} (h : MvP' w p m A c EA ec) (hb : Below w.heap.size w w') (hl : p.block < w.heap.size) : MvP' w' p m A c EA ec := ⟨cellp hb hl h.1, cellp hb hl h.2.1, cellp hb hl h.2.2.1, h.2.2.2.1.below hb hl, cellp hb hl h.2.2.2.2.1, cellp hb hl h.2.2.2.2.2⟩
theorem moves_D (c : Ctr) : movesR c = (decide ((c.ms.length : Int) ≤ 8) && bothF (fun x => placeN x.name (c.ms.map fun x => x.name) 0) (fun m => nameB m.name && moveD c m) c.ms 0) := by
  rw [moves_both]
  exact congrArg (fun p => _ && bothF _ p c.ms 0) (funext fun m => moveR_D c m)
set_option maxHeartbeats 16000000 in
theorem rcCheck_any (ct : Ctr) (FA : Option Addr) (fc : Nat) (SA : Option Addr) (sc : Nat) (MA : Option Addr) (mc : Nat) (w : World) (h : CtK w ct FA fc SA sc MA mc) :
    Calls Tryz.prog 16 #[agC ct.name FA ct.fs.length fc SA ct.ss.length sc MA ct.ms.length mc] w (VMk (.int .i64 (checkC ct)) w) := by
  have HB0 := Lib.hid (alloc1 w (bxC ct.name FA ct.fs.length fc SA ct.ss.length sc MA ct.ms.length mc))
  have HC := Lib.hid (BxA.new w (csC ct.name FA ct.fs.length fc SA ct.ss.length sc MA ct.ms.length mc) 33)
  have HN := Lib.hid (fun s W => rName_any s W)
  have HF := Lib.hid (fun W (hb : Below w.heap.size w W) => rfields_any ct FA fc SA sc MA mc W (h.below hb))
  have HS := Lib.hid (fun W (hb : Below w.heap.size w W) => rstages_any ct FA fc SA sc MA mc W (h.below hb))
  have HG := Lib.hid (fun nm W (hb : Below w.heap.size w W) => rMove_any ct FA fc SA sc MA mc nm W (h.below hb))
  have HM := Lib.hid (fun x A c EA ec W (hb : Below w.heap.size w W) hx => rmove_any x A c EA ec ct FA fc SA sc MA mc W hx (h.below hb))
  have HX := Lib.hid h.m.2.2.2
  have hm := h.m.2.1
  have hm1 := h.m.1
  unfold maxLen at hm
  have hlen : ct.ms.length ≤ 9223372036854775807 := by omega
  have hR : checkC ct = if nameB ct.name then (if fieldsR ct then (if stagesR ct then (if movesR ct then 0 else 62) else 61) else 60) else 50 := rfl
  rw [moves_D] at hR
  clear h hm hm1
  generalize checkC ct = RES at *
  have HN0 := Lib.hid (fun W => rName_any ct.name W)
  generalize nameB ct.name = b1 at hR HN0
  generalize fieldsR ct = b2 at hR HF
  generalize stagesR ct = b3 at hR HS
  have hsf := fun (w : World) (a : Addr) (m : Mode) (b : Nat) => run_store Tryz.prog w a (.float .f64 b) m rfl
  go_enter Tryz.func16, Tryz.ntmps16
  go_upto_region 1 with fail
  generalize hw0 : w.alloc (bxC ct.name FA ct.fs.length fc SA ct.ss.length sc MA ct.ms.length mc) = w0 at *
  clear hw0
  have c0 := HC.out.2 0 _ rfl
  have c1 := HC.out.2 1 _ rfl
  have c2 := HC.out.2 2 _ rfl
  have c3 := HC.out.2 3 _ rfl
  rcases b1 with _ | _
  · have HE := Lib.hid (show RES = 50 from hR)
    clear hR
    go_wp2_with (first | fail | (go_at_call 40; refine (HN0.out _).mono ?_; rintro e w1 ⟨rfl, rfl⟩))
    go_ret
    exact ⟨ret_int HE.out.symm, HB0.out⟩
  rcases b2 with _ | _
  · have HE := Lib.hid (show RES = 60 from hR)
    clear hR
    go_wp2_with (first | fail | (go_at_call 40; refine (HN0.out _).mono ?_; rintro e w1 ⟨rfl, rfl⟩) | (go_at_call 41; refine (HF.out _ HB0.out).mono ?_; rintro e w2 ⟨rfl, hb2⟩; clear c0 c1 c2 c3; have c0 := (HC.out.below (hb2)).2 0 _ rfl; have c1 := (HC.out.below (hb2)).2 1 _ rfl; have c2 := (HC.out.below (hb2)).2 2 _ rfl; have c3 := (HC.out.below (hb2)).2 3 _ rfl))
    go_ret
    exact ⟨ret_int HE.out.symm, bel2 HB0.out hb2⟩
  rcases b3 with _ | _
  · have HE := Lib.hid (show RES = 61 from hR)
    clear hR
    go_wp2_with (first | fail | (go_at_call 40; refine (HN0.out _).mono ?_; rintro e w1 ⟨rfl, rfl⟩) | (go_at_call 41; refine (HF.out _ HB0.out).mono ?_; rintro e w2 ⟨rfl, hb2⟩; clear c0 c1 c2 c3; have c0 := (HC.out.below (hb2)).2 0 _ rfl; have c1 := (HC.out.below (hb2)).2 1 _ rfl; have c2 := (HC.out.below (hb2)).2 2 _ rfl; have c3 := (HC.out.below (hb2)).2 3 _ rfl) | (go_at_call 42; refine (HS.out _ (bel2 HB0.out hb2)).mono ?_; rintro e w3 ⟨rfl, hb3⟩; clear c0 c1 c2 c3; have c0 := (HC.out.below (bel2 hb2 hb3)).2 0 _ rfl; have c1 := (HC.out.below (bel2 hb2 hb3)).2 1 _ rfl; have c2 := (HC.out.below (bel2 hb2 hb3)).2 2 _ rfl; have c3 := (HC.out.below (bel2 hb2 hb3)).2 3 _ rfl))
    go_ret
    exact ⟨ret_int HE.out.symm, bel2 (bel2 HB0.out hb2) hb3⟩
  rw [if_pos rfl, if_pos rfl, if_pos rfl] at hR
  by_cases h8 : 8 < ct.ms.length
  · have hi : (8 : Int) < (ct.ms.length : Int) := by omega
    have hd : decide ((ct.ms.length : Int) ≤ 8) = false := decide_eq_false (by omega)
    rw [hd] at hR
    have HE := Lib.hid (show RES = 62 from hR)
    clear hR hd
    go_wp2_with (first | fail | (go_at_call 40; refine (HN0.out _).mono ?_; rintro e w1 ⟨rfl, rfl⟩) | (go_at_call 41; refine (HF.out _ HB0.out).mono ?_; rintro e w2 ⟨rfl, hb2⟩; clear c0 c1 c2 c3; have c0 := (HC.out.below (hb2)).2 0 _ rfl; have c1 := (HC.out.below (hb2)).2 1 _ rfl; have c2 := (HC.out.below (hb2)).2 2 _ rfl; have c3 := (HC.out.below (hb2)).2 3 _ rfl) | (go_at_call 42; refine (HS.out _ (bel2 HB0.out hb2)).mono ?_; rintro e w3 ⟨rfl, hb3⟩; clear c0 c1 c2 c3; have c0 := (HC.out.below (bel2 hb2 hb3)).2 0 _ rfl; have c1 := (HC.out.below (bel2 hb2 hb3)).2 1 _ rfl; have c2 := (HC.out.below (bel2 hb2 hb3)).2 2 _ rfl; have c3 := (HC.out.below (bel2 hb2 hb3)).2 3 _ rfl))
    go_ret
    exact ⟨ret_int HE.out.symm, bel2 (bel2 HB0.out hb2) hb3⟩
  have hi : ¬ (8 : Int) < (ct.ms.length : Int) := by omega
  have hd : decide ((ct.ms.length : Int) ≤ 8) = true := decide_eq_true (by omega)
  rw [hd, Bool.true_and] at hR
  clear hd h8
  generalize hg : (fun x : Mv => placeN x.name (ct.ms.map fun x => x.name) 0) = g at *
  have HGG := Lib.hid (fun (x : Mv) W hb => (show Calls Tryz.prog 43 #[agC ct.name FA ct.fs.length fc SA ct.ss.length sc MA ct.ms.length mc, .string x.name] W (VMk (.int .i64 (g x)) W) from by have h := HG.out x.name W hb; rw [← hg]; exact h))
  clear hg HG
  have h00 : bothF g (fun m => nameB m.name && moveD ct m) (ct.ms.drop 0) 0 = bothF g (fun m => nameB m.name && moveD ct m) ct.ms 0 := rfl
  generalize bothF g (fun m => nameB m.name && moveD ct m) ct.ms 0 = Q at *
  have H00 := Lib.hid h00
  have HE := Lib.hid hR
  clear h00 hR
  go_wp2_with (first | fail | (go_at_call 40; refine (HN0.out _).mono ?_; rintro e w1 ⟨rfl, rfl⟩) | (go_at_call 41; refine (HF.out _ HB0.out).mono ?_; rintro e w2 ⟨rfl, hb2⟩; clear c0 c1 c2 c3; have c0 := (HC.out.below (hb2)).2 0 _ rfl; have c1 := (HC.out.below (hb2)).2 1 _ rfl; have c2 := (HC.out.below (hb2)).2 2 _ rfl; have c3 := (HC.out.below (hb2)).2 3 _ rfl) | (go_at_call 42; refine (HS.out _ (bel2 HB0.out hb2)).mono ?_; rintro e w3 ⟨rfl, hb3⟩; clear c0 c1 c2 c3; have c0 := (HC.out.below (bel2 hb2 hb3)).2 0 _ rfl; have c1 := (HC.out.below (bel2 hb2 hb3)).2 1 _ rfl; have c2 := (HC.out.below (bel2 hb2 hb3)).2 2 _ rfl; have c3 := (HC.out.below (bel2 hb2 hb3)).2 3 _ rfl))
  have HB3 := Lib.hid (bel2 hb2 hb3)
  clear c0 c1 c2 c3 hb2 hb3
  go_loopw [3] (fun i wr => ∃ k : Nat, k ≤ ct.ms.length ∧ i = .int .i64 k ∧ bothF g (fun m => nameB m.name && moveD ct m) (ct.ms.drop k) k = Q ∧ Below w0.heap.size w0 wr) (fun i _ => ct.ms.length - (intOf i).toNat)
  case atStart => exact ⟨0, Nat.zero_le _, rfl, H00.out, HB3.out⟩
  case round =>
    obtain ⟨k, hk, rfl, hfi, hb⟩ := hrel
    have HB := Lib.hid hb
    clear hb
    have c3 := (HC.out.below HB.out).2 3 _ rfl
    by_cases hlt : k < ct.ms.length
    case neg =>
      obtain rfl : k = ct.ms.length := by omega
      have hltI : ¬ (ct.ms.length : Int) < (ct.ms.length : Int) := by omega
      rw [List.drop_length, bothF] at hfi
      have HQ := Lib.hid hfi
      clear hfi
      go_wp2
      go_ret
      exact ⟨ret_int (by rw [HE.out, ← HQ.out]; rfl), bel2 HB0.out HB.out⟩
    have hltI : (k : Int) < (ct.ms.length : Int) := by omega
    obtain ⟨ad, rfl, hbl, hpart⟩ := HX.out k hlt
    rw [List.drop_eq_getElem_cons hlt, bothF] at hfi
    generalize ct.ms[k] = x at *
    obtain ⟨A, c, EA, ec, p0, p1, p2, pk, pe, p11, p12, pek⟩ := hpart
    have HP := Lib.hid (show ∀ W, Below w.heap.size w W → MvP' W (ad.add (k * 13)) x A c EA ec from fun W hb => MvP'.below ⟨p0, p1, p2, pk, p11, p12⟩ hb (by rw [block_add]; exact hbl))
    have HXX := Lib.hid (show ∀ W, Below w.heap.size w W → ExE W A c x.guard ∧ EffK W EA ec x.effs from fun W hb => ⟨pe.below hb, EffK.below pek hb⟩)
    clear p0 p1 p2 pk pe p11 p12 pek
    have HK3 := Lib.hid (show ∀ W, Below w0.heap.size w0 W → (fun W => Below w0.heap.size w0 W ∧ W.cell? ⟨w.heap.size, 0, none⟩ = some (.string ct.name) ∧ W.cell? ⟨w.heap.size, 1, none⟩ = some (.slice FA ct.fs.length fc) ∧ W.cell? ⟨w.heap.size, 2, none⟩ = some (.slice SA ct.ss.length sc) ∧ W.cell? ⟨w.heap.size, 3, none⟩ = some (.slice (some ad) ct.ms.length mc) ∧ W.cell? (ad.add (k * 13)) = some (.string x.name) ∧ W.cell? ⟨(ad.add (k * 13)).block, (ad.add (k * 13)).off + 1, none⟩ = some (.int .i64 x.frm) ∧ W.cell? ⟨(ad.add (k * 13)).block, (ad.add (k * 13)).off + 2, none⟩ = some (.int .i64 x.too) ∧ W.cell? ⟨(ad.add (k * 13)).block, (ad.add (k * 13)).off + 3, none⟩ = some (.int .i64 x.guard.op) ∧ W.cell? ⟨(ad.add (k * 13)).block, (ad.add (k * 13)).off + 4, none⟩ = some (.slice A x.guard.kids.length c) ∧ W.cell? ⟨(ad.add (k * 13)).block, (ad.add (k * 13)).off + 5, none⟩ = some (.string x.guard.name) ∧ W.cell? ⟨(ad.add (k * 13)).block, (ad.add (k * 13)).off + 6, none⟩ = some (.int .i64 x.guard.val.k) ∧ W.cell? ⟨(ad.add (k * 13)).block, (ad.add (k * 13)).off + 7, none⟩ = some (.int .i64 x.guard.val.i) ∧ W.cell? ⟨(ad.add (k * 13)).block, (ad.add (k * 13)).off + 8, none⟩ = some (.bool x.guard.val.b) ∧ W.cell? ⟨(ad.add (k * 13)).block, (ad.add (k * 13)).off + 9, none⟩ = some (.string x.guard.val.s) ∧ W.cell? ⟨(ad.add (k * 13)).block, (ad.add (k * 13)).off + 10, none⟩ = some (.float .f64 x.guard.val.n) ∧ W.cell? ⟨(ad.add (k * 13)).block, (ad.add (k * 13)).off + 11, none⟩ = some (.slice EA x.effs.length ec) ∧ W.cell? ⟨(ad.add (k * 13)).block, (ad.add (k * 13)).off + 12, none⟩ = some (.int .i64 x.org)) W from fun W h => ⟨h, (HC.out.below h).2 0 _ rfl, (HC.out.below h).2 1 _ rfl, (HC.out.below h).2 2 _ rfl, (HC.out.below h).2 3 _ rfl, (HP.out W (bel2 HB0.out h)).1, (HP.out W (bel2 HB0.out h)).2.1, (HP.out W (bel2 HB0.out h)).2.2.1, (HP.out W (bel2 HB0.out h)).2.2.2.1.1, (HP.out W (bel2 HB0.out h)).2.2.2.1.2.1, (HP.out W (bel2 HB0.out h)).2.2.2.1.2.2.1, (HP.out W (bel2 HB0.out h)).2.2.2.1.2.2.2.1, (HP.out W (bel2 HB0.out h)).2.2.2.1.2.2.2.2.1, (HP.out W (bel2 HB0.out h)).2.2.2.1.2.2.2.2.2.1, (HP.out W (bel2 HB0.out h)).2.2.2.1.2.2.2.2.2.2.1, (HP.out W (bel2 HB0.out h)).2.2.2.1.2.2.2.2.2.2.2, (HP.out W (bel2 HB0.out h)).2.2.2.2.1, (HP.out W (bel2 HB0.out h)).2.2.2.2.2⟩)
    have HS0 := Lib.hid (HK3.out wr.drew (bel2 HB.out (Below.refl _ _).drew))
    have HNX := Lib.hid (fun W => HN.out x.name W)
    have HGX := Lib.hid (fun W hb => HGG.out x W hb)
    have HMX := Lib.hid (fun W hb hx => HM.out x A c EA ec W hb hx)
    generalize nameB x.name = n1 at *
    generalize moveD ct x = n3 at *
    have hne : (g x != (k : Int)) = !(g x == (k : Int)) := rfl
    generalize hgk : (g x == (k : Int)) = n2 at *
    rcases n1 with _ | _
    · rw [Bool.false_and, Bool.and_false, Bool.false_and] at hfi
      have HQ := Lib.hid hfi
      clear hfi hgk
      go_wp2
      refine wp_region_held_drew (S := (fun W => Below w0.heap.size w0 W ∧ W.cell? ⟨w.heap.size, 0, none⟩ = some (.string ct.name) ∧ W.cell? ⟨w.heap.size, 1, none⟩ = some (.slice FA ct.fs.length fc) ∧ W.cell? ⟨w.heap.size, 2, none⟩ = some (.slice SA ct.ss.length sc) ∧ W.cell? ⟨w.heap.size, 3, none⟩ = some (.slice (some ad) ct.ms.length mc) ∧ W.cell? (ad.add (k * 13)) = some (.string x.name) ∧ W.cell? ⟨(ad.add (k * 13)).block, (ad.add (k * 13)).off + 1, none⟩ = some (.int .i64 x.frm) ∧ W.cell? ⟨(ad.add (k * 13)).block, (ad.add (k * 13)).off + 2, none⟩ = some (.int .i64 x.too) ∧ W.cell? ⟨(ad.add (k * 13)).block, (ad.add (k * 13)).off + 3, none⟩ = some (.int .i64 x.guard.op) ∧ W.cell? ⟨(ad.add (k * 13)).block, (ad.add (k * 13)).off + 4, none⟩ = some (.slice A x.guard.kids.length c) ∧ W.cell? ⟨(ad.add (k * 13)).block, (ad.add (k * 13)).off + 5, none⟩ = some (.string x.guard.name) ∧ W.cell? ⟨(ad.add (k * 13)).block, (ad.add (k * 13)).off + 6, none⟩ = some (.int .i64 x.guard.val.k) ∧ W.cell? ⟨(ad.add (k * 13)).block, (ad.add (k * 13)).off + 7, none⟩ = some (.int .i64 x.guard.val.i) ∧ W.cell? ⟨(ad.add (k * 13)).block, (ad.add (k * 13)).off + 8, none⟩ = some (.bool x.guard.val.b) ∧ W.cell? ⟨(ad.add (k * 13)).block, (ad.add (k * 13)).off + 9, none⟩ = some (.string x.guard.val.s) ∧ W.cell? ⟨(ad.add (k * 13)).block, (ad.add (k * 13)).off + 10, none⟩ = some (.float .f64 x.guard.val.n) ∧ W.cell? ⟨(ad.add (k * 13)).block, (ad.add (k * 13)).off + 11, none⟩ = some (.slice EA x.effs.length ec) ∧ W.cell? ⟨(ad.add (k * 13)).block, (ad.add (k * 13)).off + 12, none⟩ = some (.int .i64 x.org))) (by kernel_rfl) (HS0.out) (fun hHeld => ?_)
      refine tk 0 ?_
      (try simp only [Act.put, sA, sB, sC])
      refine tk 1 ?_
      (try simp only [Act.put, sA, sB, sC])
      refine tk 2 ?_
      (try simp only [Act.put, sA, sB, sC])
      refine tk 3 ?_
      (try simp only [Act.put, sA, sB, sC])
      refine tk 4 ?_
      (try simp only [Act.put, sA, sB, sC])
      refine tk 5 ?_
      (try simp only [Act.put, sA, sB, sC])
      refine wpAnyH_ready (rs := [6]) (by kernel_rfl) (by simp) ?_
      refine AllReadyH.cons (o := ?o7) ?g7 (fun K hK => ?j7) AllReadyH.nil
      case g7 => (simp only [gA, gB, gC]; rfl)
      go_simp
      refine (HNX.out _).mono ?_; rintro e wK ⟨rfl, rfl⟩
      refine hK.out _ _ ?_ (fun hHeld => ?_)
      · (try dsimp only); (first | assumption | exact HK3.out _ (bel2 hHeld.1 hbA))
      clear hK K
      (try simp only [Act.put, sA, sB, sC])
      refine tk 7 ?_
      (try simp only [Act.put, sA, sB, sC])
      refine tk 8 ?_
      (try simp only [Act.put, sA, sB, sC])
      refine sk 9 ?_
      (try simp only [Act.put, sA, sB, sC])
      refine sk 10 ?_
      (try simp only [Act.put, sA, sB, sC])
      refine sk 11 ?_
      (try simp only [Act.put, sA, sB, sC])
      refine sk 12 ?_
      (try simp only [Act.put, sA, sB, sC])
      refine sk 13 ?_
      (try simp only [Act.put, sA, sB, sC])
      refine sk 14 ?_
      (try simp only [Act.put, sA, sB, sC])
      refine sk 15 ?_
      (try simp only [Act.put, sA, sB, sC])
      refine sk 16 ?_
      (try simp only [Act.put, sA, sB, sC])
      refine sk 17 ?_
      (try simp only [Act.put, sA, sB, sC])
      refine sk 18 ?_
      (try simp only [Act.put, sA, sB, sC])
      refine tk 19 ?_
      (try simp only [Act.put, sA, sB, sC])
      refine tk 20 ?_
      (try simp only [Act.put, sA, sB, sC])
      refine sk 21 ?_
      (try simp only [Act.put, sA, sB, sC])
      refine sk 22 ?_
      (try simp only [Act.put, sA, sB, sC])
      refine sk 23 ?_
      (try simp only [Act.put, sA, sB, sC])
      refine sk 24 ?_
      (try simp only [Act.put, sA, sB, sC])
      refine sk 25 ?_
      (try simp only [Act.put, sA, sB, sC])
      refine sk 26 ?_
      (try simp only [Act.put, sA, sB, sC])
      refine sk 27 ?_
      (try simp only [Act.put, sA, sB, sC])
      refine sk 28 ?_
      (try simp only [Act.put, sA, sB, sC])
      refine tk 29 ?_
      (try simp only [Act.put, sA, sB, sC])
      refine wpAnyH_done (by kernel_rfl) ?_ _
      have hB := hHeld.1
      go_wp2
      go_ret
      exact ⟨ret_int (by rw [HE.out, ← HQ.out]; rfl), bel2 HB0.out hB⟩
    rcases n2 with _ | _
    · rw [Bool.false_and, Bool.false_and] at hfi
      simp only [Bool.not_false] at hne
      have HQ := Lib.hid hfi
      clear hfi hgk
      go_wp2
      refine wp_region_held_drew (S := (fun W => Below w0.heap.size w0 W ∧ W.cell? ⟨w.heap.size, 0, none⟩ = some (.string ct.name) ∧ W.cell? ⟨w.heap.size, 1, none⟩ = some (.slice FA ct.fs.length fc) ∧ W.cell? ⟨w.heap.size, 2, none⟩ = some (.slice SA ct.ss.length sc) ∧ W.cell? ⟨w.heap.size, 3, none⟩ = some (.slice (some ad) ct.ms.length mc) ∧ W.cell? (ad.add (k * 13)) = some (.string x.name) ∧ W.cell? ⟨(ad.add (k * 13)).block, (ad.add (k * 13)).off + 1, none⟩ = some (.int .i64 x.frm) ∧ W.cell? ⟨(ad.add (k * 13)).block, (ad.add (k * 13)).off + 2, none⟩ = some (.int .i64 x.too) ∧ W.cell? ⟨(ad.add (k * 13)).block, (ad.add (k * 13)).off + 3, none⟩ = some (.int .i64 x.guard.op) ∧ W.cell? ⟨(ad.add (k * 13)).block, (ad.add (k * 13)).off + 4, none⟩ = some (.slice A x.guard.kids.length c) ∧ W.cell? ⟨(ad.add (k * 13)).block, (ad.add (k * 13)).off + 5, none⟩ = some (.string x.guard.name) ∧ W.cell? ⟨(ad.add (k * 13)).block, (ad.add (k * 13)).off + 6, none⟩ = some (.int .i64 x.guard.val.k) ∧ W.cell? ⟨(ad.add (k * 13)).block, (ad.add (k * 13)).off + 7, none⟩ = some (.int .i64 x.guard.val.i) ∧ W.cell? ⟨(ad.add (k * 13)).block, (ad.add (k * 13)).off + 8, none⟩ = some (.bool x.guard.val.b) ∧ W.cell? ⟨(ad.add (k * 13)).block, (ad.add (k * 13)).off + 9, none⟩ = some (.string x.guard.val.s) ∧ W.cell? ⟨(ad.add (k * 13)).block, (ad.add (k * 13)).off + 10, none⟩ = some (.float .f64 x.guard.val.n) ∧ W.cell? ⟨(ad.add (k * 13)).block, (ad.add (k * 13)).off + 11, none⟩ = some (.slice EA x.effs.length ec) ∧ W.cell? ⟨(ad.add (k * 13)).block, (ad.add (k * 13)).off + 12, none⟩ = some (.int .i64 x.org))) (by kernel_rfl) (HS0.out) (fun hHeld => ?_)
      refine tk 0 ?_
      (try simp only [Act.put, sA, sB, sC])
      refine tk 1 ?_
      (try simp only [Act.put, sA, sB, sC])
      refine tk 2 ?_
      (try simp only [Act.put, sA, sB, sC])
      refine tk 3 ?_
      (try simp only [Act.put, sA, sB, sC])
      refine tk 4 ?_
      (try simp only [Act.put, sA, sB, sC])
      refine tk 5 ?_
      (try simp only [Act.put, sA, sB, sC])
      refine wpAnyH_ready (rs := [6]) (by kernel_rfl) (by simp) ?_
      refine AllReadyH.cons (o := ?o37) ?g37 (fun K hK => ?j37) AllReadyH.nil
      case g37 => (simp only [gA, gB, gC]; rfl)
      go_simp
      refine (HNX.out _).mono ?_; rintro e wK ⟨rfl, rfl⟩
      refine hK.out _ _ ?_ (fun hHeld => ?_)
      · (try dsimp only); (first | assumption | exact HK3.out _ (bel2 hHeld.1 hbA))
      clear hK K
      (try simp only [Act.put, sA, sB, sC])
      refine tk 7 ?_
      (try simp only [Act.put, sA, sB, sC])
      refine tk 8 ?_
      (try simp only [Act.put, sA, sB, sC])
      refine tk 9 ?_
      (try simp only [Act.put, sA, sB, sC])
      refine tk 10 ?_
      (try simp only [Act.put, sA, sB, sC])
      refine tk 11 ?_
      (try simp only [Act.put, sA, sB, sC])
      refine tk 12 ?_
      (try simp only [Act.put, sA, sB, sC])
      refine tk 13 ?_
      (try simp only [Act.put, sA, sB, sC])
      refine tk 14 ?_
      (try simp only [Act.put, sA, sB, sC])
      refine tk 15 ?_
      (try simp only [Act.put, sA, sB, sC])
      refine tk 17 ?_
      (try simp only [Act.put, sA, sB, sC])
      refine wpAnyH_ready (rs := [16]) (by kernel_rfl) (by simp) ?_
      refine AllReadyH.cons (o := ?o48) ?g48 (fun K hK => ?j48) AllReadyH.nil
      case g48 => (simp only [gA, gB, gC]; rfl)
      go_simp
      refine (HGX.out _ (bel2 HB0.out hHeld.1)).mono ?_; rintro e wA ⟨rfl, hbA⟩
      refine hK.out _ _ ?_ (fun hHeld => ?_)
      · (try dsimp only); (first | assumption | exact HK3.out _ (bel2 hHeld.1 hbA))
      clear hK K
      (try simp only [Act.put, sA, sB, sC])
      refine tk 18 ?_
      (try simp only [Act.put, sA, sB, sC])
      refine tk 19 ?_
      (try simp only [Act.put, sA, sB, sC])
      refine tk 20 ?_
      (try simp only [Act.put, sA, sB, sC])
      refine sk 21 ?_
      (try simp only [Act.put, sA, sB, sC])
      refine sk 22 ?_
      (try simp only [Act.put, sA, sB, sC])
      refine sk 23 ?_
      (try simp only [Act.put, sA, sB, sC])
      refine sk 24 ?_
      (try simp only [Act.put, sA, sB, sC])
      refine sk 25 ?_
      (try simp only [Act.put, sA, sB, sC])
      refine sk 26 ?_
      (try simp only [Act.put, sA, sB, sC])
      refine sk 27 ?_
      (try simp only [Act.put, sA, sB, sC])
      refine sk 28 ?_
      (try simp only [Act.put, sA, sB, sC])
      refine tk 29 ?_
      (try simp only [Act.put, sA, sB, sC])
      refine wpAnyH_done (by kernel_rfl) ?_ _
      have hB := hHeld.1
      go_wp2
      go_ret
      exact ⟨ret_int (by rw [HE.out, ← HQ.out]; rfl), bel2 HB0.out hB⟩
    simp only [Bool.not_true] at hne
    rcases n3 with _ | _
    · rw [Bool.true_and, Bool.true_and, Bool.false_and] at hfi
      have HQ := Lib.hid hfi
      clear hfi hgk
      go_wp2
      refine wp_region_held_drew (S := (fun W => Below w0.heap.size w0 W ∧ W.cell? ⟨w.heap.size, 0, none⟩ = some (.string ct.name) ∧ W.cell? ⟨w.heap.size, 1, none⟩ = some (.slice FA ct.fs.length fc) ∧ W.cell? ⟨w.heap.size, 2, none⟩ = some (.slice SA ct.ss.length sc) ∧ W.cell? ⟨w.heap.size, 3, none⟩ = some (.slice (some ad) ct.ms.length mc) ∧ W.cell? (ad.add (k * 13)) = some (.string x.name) ∧ W.cell? ⟨(ad.add (k * 13)).block, (ad.add (k * 13)).off + 1, none⟩ = some (.int .i64 x.frm) ∧ W.cell? ⟨(ad.add (k * 13)).block, (ad.add (k * 13)).off + 2, none⟩ = some (.int .i64 x.too) ∧ W.cell? ⟨(ad.add (k * 13)).block, (ad.add (k * 13)).off + 3, none⟩ = some (.int .i64 x.guard.op) ∧ W.cell? ⟨(ad.add (k * 13)).block, (ad.add (k * 13)).off + 4, none⟩ = some (.slice A x.guard.kids.length c) ∧ W.cell? ⟨(ad.add (k * 13)).block, (ad.add (k * 13)).off + 5, none⟩ = some (.string x.guard.name) ∧ W.cell? ⟨(ad.add (k * 13)).block, (ad.add (k * 13)).off + 6, none⟩ = some (.int .i64 x.guard.val.k) ∧ W.cell? ⟨(ad.add (k * 13)).block, (ad.add (k * 13)).off + 7, none⟩ = some (.int .i64 x.guard.val.i) ∧ W.cell? ⟨(ad.add (k * 13)).block, (ad.add (k * 13)).off + 8, none⟩ = some (.bool x.guard.val.b) ∧ W.cell? ⟨(ad.add (k * 13)).block, (ad.add (k * 13)).off + 9, none⟩ = some (.string x.guard.val.s) ∧ W.cell? ⟨(ad.add (k * 13)).block, (ad.add (k * 13)).off + 10, none⟩ = some (.float .f64 x.guard.val.n) ∧ W.cell? ⟨(ad.add (k * 13)).block, (ad.add (k * 13)).off + 11, none⟩ = some (.slice EA x.effs.length ec) ∧ W.cell? ⟨(ad.add (k * 13)).block, (ad.add (k * 13)).off + 12, none⟩ = some (.int .i64 x.org))) (by kernel_rfl) (HS0.out) (fun hHeld => ?_)
      refine tk 0 ?_
      (try simp only [Act.put, sA, sB, sC])
      refine tk 1 ?_
      (try simp only [Act.put, sA, sB, sC])
      refine tk 2 ?_
      (try simp only [Act.put, sA, sB, sC])
      refine tk 3 ?_
      (try simp only [Act.put, sA, sB, sC])
      refine tk 4 ?_
      (try simp only [Act.put, sA, sB, sC])
      refine tk 5 ?_
      (try simp only [Act.put, sA, sB, sC])
      refine wpAnyH_ready (rs := [6]) (by kernel_rfl) (by simp) ?_
      refine AllReadyH.cons (o := ?o67) ?g67 (fun K hK => ?j67) AllReadyH.nil
      case g67 => (simp only [gA, gB, gC]; rfl)
      go_simp
      refine (HNX.out _).mono ?_; rintro e wK ⟨rfl, rfl⟩
      refine hK.out _ _ ?_ (fun hHeld => ?_)
      · (try dsimp only); (first | assumption | exact HK3.out _ (bel2 hHeld.1 hbA))
      clear hK K
      (try simp only [Act.put, sA, sB, sC])
      refine tk 7 ?_
      (try simp only [Act.put, sA, sB, sC])
      refine tk 8 ?_
      (try simp only [Act.put, sA, sB, sC])
      refine tk 9 ?_
      (try simp only [Act.put, sA, sB, sC])
      refine tk 10 ?_
      (try simp only [Act.put, sA, sB, sC])
      refine tk 11 ?_
      (try simp only [Act.put, sA, sB, sC])
      refine tk 12 ?_
      (try simp only [Act.put, sA, sB, sC])
      refine tk 13 ?_
      (try simp only [Act.put, sA, sB, sC])
      refine tk 14 ?_
      (try simp only [Act.put, sA, sB, sC])
      refine tk 15 ?_
      (try simp only [Act.put, sA, sB, sC])
      refine tk 17 ?_
      (try simp only [Act.put, sA, sB, sC])
      refine wpAnyH_ready (rs := [16]) (by kernel_rfl) (by simp) ?_
      refine AllReadyH.cons (o := ?o78) ?g78 (fun K hK => ?j78) AllReadyH.nil
      case g78 => (simp only [gA, gB, gC]; rfl)
      go_simp
      refine (HGX.out _ (bel2 HB0.out hHeld.1)).mono ?_; rintro e wA ⟨rfl, hbA⟩
      refine hK.out _ _ ?_ (fun hHeld => ?_)
      · (try dsimp only); (first | assumption | exact HK3.out _ (bel2 hHeld.1 hbA))
      clear hK K
      (try simp only [Act.put, sA, sB, sC])
      refine tk 18 ?_
      (try simp only [Act.put, sA, sB, sC])
      refine tk 19 ?_
      (try simp only [Act.put, sA, sB, sC])
      refine tk 20 ?_
      (try simp only [Act.put, sA, sB, sC])
      refine tk 21 ?_
      (try simp only [Act.put, sA, sB, sC])
      refine tk 22 ?_
      (try simp only [Act.put, sA, sB, sC])
      refine tk 23 ?_
      (try simp only [Act.put, sA, sB, sC])
      refine tk 24 ?_
      (try simp only [Act.put, sA, sB, sC])
      refine tk 25 ?_
      (try simp only [Act.put, sA, sB, sC])
      refine tk 26 ?_
      (try simp only [Act.put, sA, sB, sC])
      refine wpAnyH_ready (rs := [27]) (by kernel_rfl) (by simp) ?_
      refine AllReadyH.cons (o := ?o88) ?g88 (fun K hK => ?j88) AllReadyH.nil
      case g88 => (simp only [gA, gB, gC]; rfl)
      go_simp
      refine (HMX.out _ (bel2 HB0.out hHeld.1) (HXX.out _ (bel2 HB0.out hHeld.1))).mono ?_; rintro e wA ⟨rfl, hbA⟩
      refine hK.out _ _ ?_ (fun hHeld => ?_)
      · (try dsimp only); (first | assumption | exact HK3.out _ (bel2 hHeld.1 hbA))
      clear hK K
      (try simp only [Act.put, sA, sB, sC])
      refine tk 28 ?_
      (try simp only [Act.put, sA, sB, sC])
      refine tk 29 ?_
      (try simp only [Act.put, sA, sB, sC])
      refine wpAnyH_done (by kernel_rfl) ?_ _
      have hB := hHeld.1
      go_wp2
      go_ret
      exact ⟨ret_int (by rw [HE.out, ← HQ.out]; rfl), bel2 HB0.out hB⟩
    · rw [Bool.true_and, Bool.true_and, Bool.true_and] at hfi
      have HQ := Lib.hid hfi
      clear hfi hgk
      go_wp2
      refine wp_region_held_drew (S := (fun W => Below w0.heap.size w0 W ∧ W.cell? ⟨w.heap.size, 0, none⟩ = some (.string ct.name) ∧ W.cell? ⟨w.heap.size, 1, none⟩ = some (.slice FA ct.fs.length fc) ∧ W.cell? ⟨w.heap.size, 2, none⟩ = some (.slice SA ct.ss.length sc) ∧ W.cell? ⟨w.heap.size, 3, none⟩ = some (.slice (some ad) ct.ms.length mc) ∧ W.cell? (ad.add (k * 13)) = some (.string x.name) ∧ W.cell? ⟨(ad.add (k * 13)).block, (ad.add (k * 13)).off + 1, none⟩ = some (.int .i64 x.frm) ∧ W.cell? ⟨(ad.add (k * 13)).block, (ad.add (k * 13)).off + 2, none⟩ = some (.int .i64 x.too) ∧ W.cell? ⟨(ad.add (k * 13)).block, (ad.add (k * 13)).off + 3, none⟩ = some (.int .i64 x.guard.op) ∧ W.cell? ⟨(ad.add (k * 13)).block, (ad.add (k * 13)).off + 4, none⟩ = some (.slice A x.guard.kids.length c) ∧ W.cell? ⟨(ad.add (k * 13)).block, (ad.add (k * 13)).off + 5, none⟩ = some (.string x.guard.name) ∧ W.cell? ⟨(ad.add (k * 13)).block, (ad.add (k * 13)).off + 6, none⟩ = some (.int .i64 x.guard.val.k) ∧ W.cell? ⟨(ad.add (k * 13)).block, (ad.add (k * 13)).off + 7, none⟩ = some (.int .i64 x.guard.val.i) ∧ W.cell? ⟨(ad.add (k * 13)).block, (ad.add (k * 13)).off + 8, none⟩ = some (.bool x.guard.val.b) ∧ W.cell? ⟨(ad.add (k * 13)).block, (ad.add (k * 13)).off + 9, none⟩ = some (.string x.guard.val.s) ∧ W.cell? ⟨(ad.add (k * 13)).block, (ad.add (k * 13)).off + 10, none⟩ = some (.float .f64 x.guard.val.n) ∧ W.cell? ⟨(ad.add (k * 13)).block, (ad.add (k * 13)).off + 11, none⟩ = some (.slice EA x.effs.length ec) ∧ W.cell? ⟨(ad.add (k * 13)).block, (ad.add (k * 13)).off + 12, none⟩ = some (.int .i64 x.org))) (by kernel_rfl) (HS0.out) (fun hHeld => ?_)
      refine tk 0 ?_
      (try simp only [Act.put, sA, sB, sC])
      refine tk 1 ?_
      (try simp only [Act.put, sA, sB, sC])
      refine tk 2 ?_
      (try simp only [Act.put, sA, sB, sC])
      refine tk 3 ?_
      (try simp only [Act.put, sA, sB, sC])
      refine tk 4 ?_
      (try simp only [Act.put, sA, sB, sC])
      refine tk 5 ?_
      (try simp only [Act.put, sA, sB, sC])
      refine wpAnyH_ready (rs := [6]) (by kernel_rfl) (by simp) ?_
      refine AllReadyH.cons (o := ?o97) ?g97 (fun K hK => ?j97) AllReadyH.nil
      case g97 => (simp only [gA, gB, gC]; rfl)
      go_simp
      refine (HNX.out _).mono ?_; rintro e wK ⟨rfl, rfl⟩
      refine hK.out _ _ ?_ (fun hHeld => ?_)
      · (try dsimp only); (first | assumption | exact HK3.out _ (bel2 hHeld.1 hbA))
      clear hK K
      (try simp only [Act.put, sA, sB, sC])
      refine tk 7 ?_
      (try simp only [Act.put, sA, sB, sC])
      refine tk 8 ?_
      (try simp only [Act.put, sA, sB, sC])
      refine tk 9 ?_
      (try simp only [Act.put, sA, sB, sC])
      refine tk 10 ?_
      (try simp only [Act.put, sA, sB, sC])
      refine tk 11 ?_
      (try simp only [Act.put, sA, sB, sC])
      refine tk 12 ?_
      (try simp only [Act.put, sA, sB, sC])
      refine tk 13 ?_
      (try simp only [Act.put, sA, sB, sC])
      refine tk 14 ?_
      (try simp only [Act.put, sA, sB, sC])
      refine tk 15 ?_
      (try simp only [Act.put, sA, sB, sC])
      refine tk 17 ?_
      (try simp only [Act.put, sA, sB, sC])
      refine wpAnyH_ready (rs := [16]) (by kernel_rfl) (by simp) ?_
      refine AllReadyH.cons (o := ?o108) ?g108 (fun K hK => ?j108) AllReadyH.nil
      case g108 => (simp only [gA, gB, gC]; rfl)
      go_simp
      refine (HGX.out _ (bel2 HB0.out hHeld.1)).mono ?_; rintro e wA ⟨rfl, hbA⟩
      refine hK.out _ _ ?_ (fun hHeld => ?_)
      · (try dsimp only); (first | assumption | exact HK3.out _ (bel2 hHeld.1 hbA))
      clear hK K
      (try simp only [Act.put, sA, sB, sC])
      refine tk 18 ?_
      (try simp only [Act.put, sA, sB, sC])
      refine tk 19 ?_
      (try simp only [Act.put, sA, sB, sC])
      refine tk 20 ?_
      (try simp only [Act.put, sA, sB, sC])
      refine tk 21 ?_
      (try simp only [Act.put, sA, sB, sC])
      refine tk 22 ?_
      (try simp only [Act.put, sA, sB, sC])
      refine tk 23 ?_
      (try simp only [Act.put, sA, sB, sC])
      refine tk 24 ?_
      (try simp only [Act.put, sA, sB, sC])
      refine tk 25 ?_
      (try simp only [Act.put, sA, sB, sC])
      refine tk 26 ?_
      (try simp only [Act.put, sA, sB, sC])
      refine wpAnyH_ready (rs := [27]) (by kernel_rfl) (by simp) ?_
      refine AllReadyH.cons (o := ?o118) ?g118 (fun K hK => ?j118) AllReadyH.nil
      case g118 => (simp only [gA, gB, gC]; rfl)
      go_simp
      refine (HMX.out _ (bel2 HB0.out hHeld.1) (HXX.out _ (bel2 HB0.out hHeld.1))).mono ?_; rintro e wA ⟨rfl, hbA⟩
      refine hK.out _ _ ?_ (fun hHeld => ?_)
      · (try dsimp only); (first | assumption | exact HK3.out _ (bel2 hHeld.1 hbA))
      clear hK K
      (try simp only [Act.put, sA, sB, sC])
      refine tk 28 ?_
      (try simp only [Act.put, sA, sB, sC])
      refine tk 29 ?_
      (try simp only [Act.put, sA, sB, sC])
      refine wpAnyH_done (by kernel_rfl) ?_ _
      have hB := hHeld.1
      go_wp2
      go_roundw
      case rel => exact ⟨k + 1, by omega, by go_num, HQ.out, hB⟩
      case measure => simp [intOf]; omega

theorem NwI.at1 {w : World} {b : Nat} {id nm : ByteArray} {fs : List Fld} {wr w4 : World} {k : Nat} {row : Value} {o1 : Obj} (h : NwI w b id nm fs wr k row) (hgr : (wr.alloc o1).grownBy w4 row.ownBlock) :
    w4.heap[b]? = some (.cells #[.string id, .string nm, .int .i64 0, row, .slice none 0 0, .bool false, .bool false, .int .i64 0] 45 (0, 0)) := by
  have hrow0 := h.own.lt
  have hb := heap_ltZ h.bx
  have hz3 : (wr.alloc o1).heap.size = wr.heap.size + 1 := by simp
  rw [hgr.block b (by omega) (fun e => by have := (hrow0 b e.symm).1; omega)]
  exact ((alloc1 wr o1).block b (by omega)).trans h.bx
theorem NwI.next1 {w : World} {b : Nat} {id nm : ByteArray} {fs : List Fld} {wr w4 : World} {k : Nat} {row row' : Value} {o1 : Obj} (h : NwI w b id nm fs wr k row) (hk : k < fs.length) (hw : w.heap.size ≤ b)
    (hown : w4.ownsRow (b + 1) 55 5 row' (k + 1) (((fs.take k).flatMap fun f => vCells f.y) ++ vCells fs[k].y)) (hgr : (wr.alloc o1).grownBy w4 row.ownBlock) : NwI w b id nm fs (w4.setCell ⟨b, 3, none⟩ row') (k + 1) row' := by
  have hrow0 := h.own.lt
  have hb := heap_ltZ h.bx
  have hz4 := hgr.size
  have hz3 : (wr.alloc o1).heap.size = wr.heap.size + 1 := by simp
  have hlow : ∀ m, m ≤ b → row.ownBlock ≠ some m := fun m hm e => by have := (hrow0 m e).1; omega
  have hkeep : ∀ m, m ≤ b → w4.heap[m]? = wr.heap[m]? := fun m hm => by
    rw [hgr.block m (by omega) (fun e => hlow m hm e.symm)]
    exact (alloc1 wr o1).block m (by omega)
  refine ⟨?_, ?_, ⟨?_, ?_, ?_, ?_, fun m hm => ?_⟩⟩
  · have h5 := setZ ((hkeep b (Nat.le_refl _)).trans h.bx) 3 row'
    simpa using h5
  · rw [List.take_succ_eq_append_getElem hk, List.flatMap_append, List.flatMap_cons, List.flatMap_nil, List.append_nil]
    exact ownsRow_setCell_below hown (a := ⟨b, 3, none⟩) (Nat.lt_succ_self b) row'
  · exact hgr.os.trans h.bel.os
  · exact hgr.tape.trans h.bel.tape
  · exact hgr.output.trans h.bel.output
  · have := h.bel.size; simp [World.setCell]; omega
  · rw [Below.heap_setCell w4 _ _ m (show m ≠ b by omega), hkeep m (by omega)]
    exact h.bel.block m hm
theorem NwI.drew {w : World} {b : Nat} {id nm : ByteArray} {fs : List Fld} {wr : World} {k : Nat} {row : Value} (h : NwI w b id nm fs wr k row) : NwI w b id nm fs wr.drew k row := ⟨h.bx, h.own, h.bel.drew⟩
theorem ownD {w : World} {base : Nat} {e : TypeId} {s : Nat} {v : Value} {n : Nat} {xs : List Value} (h : w.ownsRow base e s v n xs) : w.drew.ownsRow base e s v n xs := h
set_option maxHeartbeats 4000000 in
theorem rNew7_any (ct : Ctr) (FA : Option Addr) (fc : Nat) (SA : Option Addr) (sc : Nat) (MA : Option Addr) (mc : Nat) (id : ByteArray) (w : World) (h : CtK w ct FA fc SA sc MA mc) :
    Calls Tryz.prog 21 #[agC ct.name FA ct.fs.length fc SA ct.ss.length sc MA ct.ms.length mc, .string id] w (GivesK (newK ct id) w) := by
  have hsf := fun (w : World) (a : Addr) (m : Mode) (b : Nat) => run_store Tryz.prog w a (.float .f64 b) m rfl
  have hb2 : Below w.heap.size w ((w.alloc (.cells #[.string ct.name, .slice FA ct.fs.length fc, .slice SA ct.ss.length sc, .slice MA ct.ms.length mc] 33)).alloc (.cells #[.string ⟨#[]⟩, .string ⟨#[]⟩, .int .i64 0, .slice none 0 0, .slice none 0 0, .bool false, .bool false, .int .i64 0] 45)) := (alloc1 _ _).trans ((alloc1 _ _).mono (by simp))
  have hbc2 := belowZ (heap_alloc_new w (.cells #[.string ct.name, .slice FA ct.fs.length fc, .slice SA ct.ss.length sc, .slice MA ct.ms.length mc] 33)) (alloc1 (w.alloc (.cells #[.string ct.name, .slice FA ct.fs.length fc, .slice SA ct.ss.length sc, .slice MA ct.ms.length mc] 33)) (.cells #[.string ⟨#[]⟩, .string ⟨#[]⟩, .int .i64 0, .slice none 0 0, .slice none 0 0, .bool false, .bool false, .int .i64 0] 45))
  have hbk := heap_alloc_new (w.alloc (.cells #[.string ct.name, .slice FA ct.fs.length fc, .slice SA ct.ss.length sc, .slice MA ct.ms.length mc] 33)) (.cells #[.string ⟨#[]⟩, .string ⟨#[]⟩, .int .i64 0, .slice none 0 0, .slice none 0 0, .bool false, .bool false, .int .i64 0] 45)
  rw [World.size_alloc] at hbk
  have HCK := Lib.hid (fun W (hb : Below w.heap.size w W) => rcCheck_any ct FA fc SA sc MA mc W (h.below hb))
  have HN := Lib.hid (fun W => rName_any id W)
  have HF := Lib.hid (fun W (hb : Below w.heap.size w W) => h.f.below hb)
  have HB0 := Lib.hid hb2
  clear h hb2
  by_cases hc : checkC ct = 0
  case neg =>
    have hnk : newK ct id = (zK, 81) := by unfold newK; rw [if_neg hc]
    rw [hnk]
    have hcb : (checkC ct != 0) = true := by simpa using hc
    generalize checkC ct = ck at *
    clear hnk hc
    go_enter Tryz.func21, Tryz.ntmps21
    go_upto_region 1 with fail
    generalize (w.alloc (.cells #[.string ct.name, .slice FA ct.fs.length fc, .slice SA ct.ss.length sc, .slice MA ct.ms.length mc] 33)).alloc (.cells #[.string ⟨#[]⟩, .string ⟨#[]⟩, .int .i64 0, .slice none 0 0, .slice none 0 0, .bool false, .bool false, .int .i64 0] 45) = w0 at *
    have c0 := (heap_at hbc2 0).trans (rfl : _ = some (Value.string ct.name))
    have c1 := (heap_at hbc2 1).trans (rfl : _ = some (Value.slice FA ct.fs.length fc))
    have c2 := (heap_at hbc2 2).trans (rfl : _ = some (Value.slice SA ct.ss.length sc))
    have c3 := (heap_at hbc2 3).trans (rfl : _ = some (Value.slice MA ct.ms.length mc))
    have cf := heap_free hbc2
    have cl := heap_ltZ hbc2
    go_wp2_with fail
    refine (HCK.out _ HB0.out).mono ?_
    rintro _ w1 ⟨rfl, hb1⟩
    have hbk1 := belowZ hbk hb1
    have HB1 := Lib.hid (bel2 HB0.out hb1)
    clear hb1 hbk hbc2 c0 c1 c2 c3 cf cl
    have k0 := (heap_at hbk1 0).trans (rfl : _ = some (Value.string ⟨#[]⟩))
    have k1 := (heap_at hbk1 1).trans (rfl : _ = some (Value.string ⟨#[]⟩))
    have k2 := (heap_at hbk1 2).trans (rfl : _ = some (Value.int .i64 0))
    have k3 := (heap_at hbk1 3).trans (rfl : _ = some (Value.slice none 0 0))
    have k4 := (heap_at hbk1 4).trans (rfl : _ = some (Value.slice none 0 0))
    have k5 := (heap_at hbk1 5).trans (rfl : _ = some (Value.bool false))
    have k6 := (heap_at hbk1 6).trans (rfl : _ = some (Value.bool false))
    have k7 := (heap_at hbk1 7).trans (rfl : _ = some (Value.int .i64 0))
    have kf := heap_free hbk1
    have kl := heap_ltZ hbk1
    go_wp2
    exact bodyPost_ret (v := .tuple #[.agg (csK zK none 0 none 0), .int .i64 81]) (by simp [results, Tryz.results21, go_sem, k0, k1, k2, k3, k4, k5, k6, k7, kl, zK]) rfl (GivesK.mk (r := (zK, 81)) (Nat.le_succ _) (CsN.nil _ _ _ rfl rfl) HB1.out _ _ _ _ _ _ _ _)
  have hcb : (checkC ct != 0) = false := by simp [hc]
  by_cases hn : nameB id = true
  case neg =>
    have hnk : newK ct id = (zK, 50) := by unfold newK; rw [if_pos hc, if_neg hn]
    rw [hnk]
    have hnb : nameB id = false := by simpa using hn
    rw [hnb] at HN
    generalize checkC ct = ck at *
    clear hnk hc hn hnb
    go_enter Tryz.func21, Tryz.ntmps21
    go_upto_region 1 with fail
    generalize (w.alloc (.cells #[.string ct.name, .slice FA ct.fs.length fc, .slice SA ct.ss.length sc, .slice MA ct.ms.length mc] 33)).alloc (.cells #[.string ⟨#[]⟩, .string ⟨#[]⟩, .int .i64 0, .slice none 0 0, .slice none 0 0, .bool false, .bool false, .int .i64 0] 45) = w0 at *
    have c0 := (heap_at hbc2 0).trans (rfl : _ = some (Value.string ct.name))
    have c1 := (heap_at hbc2 1).trans (rfl : _ = some (Value.slice FA ct.fs.length fc))
    have c2 := (heap_at hbc2 2).trans (rfl : _ = some (Value.slice SA ct.ss.length sc))
    have c3 := (heap_at hbc2 3).trans (rfl : _ = some (Value.slice MA ct.ms.length mc))
    have cf := heap_free hbc2
    have cl := heap_ltZ hbc2
    go_wp2_with fail
    refine (HCK.out _ HB0.out).mono ?_
    rintro _ w1 ⟨rfl, hb1⟩
    have hbk1 := belowZ hbk hb1
    have HB1 := Lib.hid (bel2 HB0.out hb1)
    clear hb1 hbk hbc2 c0 c1 c2 c3 cf cl
    have k0 := (heap_at hbk1 0).trans (rfl : _ = some (Value.string ⟨#[]⟩))
    have k1 := (heap_at hbk1 1).trans (rfl : _ = some (Value.string ⟨#[]⟩))
    have k2 := (heap_at hbk1 2).trans (rfl : _ = some (Value.int .i64 0))
    have k3 := (heap_at hbk1 3).trans (rfl : _ = some (Value.slice none 0 0))
    have k4 := (heap_at hbk1 4).trans (rfl : _ = some (Value.slice none 0 0))
    have k5 := (heap_at hbk1 5).trans (rfl : _ = some (Value.bool false))
    have k6 := (heap_at hbk1 6).trans (rfl : _ = some (Value.bool false))
    have k7 := (heap_at hbk1 7).trans (rfl : _ = some (Value.int .i64 0))
    have kf := heap_free hbk1
    have kl := heap_ltZ hbk1
    go_wp2_with fail
    refine (HN.out _).mono ?_
    rintro _ w2 ⟨rfl, rfl⟩
    go_wp2
    exact bodyPost_ret (v := .tuple #[.agg (csK zK none 0 none 0), .int .i64 50]) (by simp [results, Tryz.results21, go_sem, k0, k1, k2, k3, k4, k5, k6, k7, kl, zK]) rfl (GivesK.mk (r := (zK, 50)) (Nat.le_succ _) (CsN.nil _ _ _ rfl rfl) HB1.out _ _ _ _ _ _ _ _)
  have hnk : newK ct id = (⟨id, ct.name, 0, ct.fs.map Fld.y, [], false, false, 0⟩, 0) := by unfold newK; rw [if_pos hc, if_pos hn]
  rw [hnk]
  have hf6 : ct.fs.length ≤ 6 := by
    obtain ⟨-, h2, -, -⟩ := check_parts hc
    unfold fieldsR at h2
    simp only [Bool.and_eq_true, decide_eq_true_eq] at h2
    omega
  rw [hn] at HN
  have HF6 := Lib.hid hf6
  generalize checkC ct = ck at *
  clear hnk hc hn hf6
  obtain ⟨i1, hi1, hz1, hsz1, hby1⟩ := infoZ infoVl
  go_enter Tryz.func21, Tryz.ntmps21
  go_upto_region 1 with fail
  generalize (w.alloc (.cells #[.string ct.name, .slice FA ct.fs.length fc, .slice SA ct.ss.length sc, .slice MA ct.ms.length mc] 33)).alloc (.cells #[.string ⟨#[]⟩, .string ⟨#[]⟩, .int .i64 0, .slice none 0 0, .slice none 0 0, .bool false, .bool false, .int .i64 0] 45) = w0 at *
  have c0 := (heap_at hbc2 0).trans (rfl : _ = some (Value.string ct.name))
  have c1 := (heap_at hbc2 1).trans (rfl : _ = some (Value.slice FA ct.fs.length fc))
  have c2 := (heap_at hbc2 2).trans (rfl : _ = some (Value.slice SA ct.ss.length sc))
  have c3 := (heap_at hbc2 3).trans (rfl : _ = some (Value.slice MA ct.ms.length mc))
  have cf := heap_free hbc2
  have cl := heap_ltZ hbc2
  go_wp2_with fail
  refine (HCK.out _ HB0.out).mono ?_
  rintro _ w1 ⟨rfl, hb1⟩
  have hbk1 := belowZ hbk hb1
  have hbc1 := belowZ hbc2 hb1
  have HB1 := Lib.hid (bel2 HB0.out hb1)
  clear hb1 hbk hbc2 c0 c1 c2 c3 cf cl
  have c0 := (heap_at hbc1 0).trans (rfl : _ = some (Value.string ct.name))
  have c1 := (heap_at hbc1 1).trans (rfl : _ = some (Value.slice FA ct.fs.length fc))
  have c2 := (heap_at hbc1 2).trans (rfl : _ = some (Value.slice SA ct.ss.length sc))
  have c3 := (heap_at hbc1 3).trans (rfl : _ = some (Value.slice MA ct.ms.length mc))
  have cf := heap_free hbc1
  have cl := heap_ltZ hbc1
  go_wp2_with fail
  refine (HN.out _).mono ?_
  rintro _ w2 ⟨rfl, rfl⟩
  have hwb : w.heap.size + 1 < w1.heap.size := heap_ltZ hbk1
  go_upto_region 6 with fail
  have HN0 := Lib.hid (show NwI w1 w1.heap.size id ct.name ct.fs (w1.alloc (.cells #[.string id, .string ct.name, .int .i64 0, .slice none 0 0, .slice none 0 0, .bool false, .bool false, .int .i64 0] 45)) 0 (.slice none 0 0) from ⟨heap_alloc_new _ _, World.ownsRow_nil _ _ _ _, alloc1 _ _⟩)
  generalize hw3 : w1.alloc (.cells #[.string id, .string ct.name, .int .i64 0, .slice none 0 0, .slice none 0 0, .bool false, .bool false, .int .i64 0] 45) = w3 at *
  generalize hbb : w1.heap.size = b at *
  have HBB := Lib.hid hbb
  have HWB := Lib.hid hwb
  have HBK := Lib.hid hbk1
  have HBC1 := Lib.hid hbc1
  have HBC := Lib.hid (belowZ hbc1 (show Below w1.heap.size w1 w3 by rw [← hw3]; exact alloc1 _ _))
  clear hbb hwb hbk1 hbc1 hw3 c0 c1 c2 c3 cf cl
  have hx3 := HN0.out.bx
  have c0 := (heap_at HBC.out 0).trans (rfl : _ = some (Value.string ct.name))
  have c1 := (heap_at HBC.out 1).trans (rfl : _ = some (Value.slice FA ct.fs.length fc))
  have c2 := (heap_at HBC.out 2).trans (rfl : _ = some (Value.slice SA ct.ss.length sc))
  have c3 := (heap_at HBC.out 3).trans (rfl : _ = some (Value.slice MA ct.ms.length mc))
  have cf := heap_free HBC.out
  have cl := heap_ltZ HBC.out
  generalize hn : ct.fs.length = n at *
  have HNN := Lib.hid hn
  clear hn
  go_wp2
  go_loopw [7] (fun i wr => ∃ (k : Nat) (row : Value), k ≤ n ∧ i = .int .i64 k ∧ NwI w1 b id ct.name ct.fs wr k row) (fun i _ => n - (intOf i).toNat)
  case atStart => exact ⟨0, _, Nat.zero_le _, rfl, HN0.out⟩
  case round =>
    obtain ⟨k, row, hk, rfl, hi⟩ := hrel
    have HI := Lib.hid hi
    clear hi hx3 c0 c1 c2 c3 cf cl
    have hbcr := (HI.out.bel.block w.heap.size (by have := HWB.out; omega)).trans HBC1.out
    have c0 := (heap_at hbcr 0).trans (rfl : _ = some (Value.string ct.name))
    have c1 := (heap_at hbcr 1).trans (rfl : _ = some (Value.slice FA n fc))
    have c2 := (heap_at hbcr 2).trans (rfl : _ = some (Value.slice SA ct.ss.length sc))
    have c3 := (heap_at hbcr 3).trans (rfl : _ = some (Value.slice MA ct.ms.length mc))
    have cf := heap_free hbcr
    have cl := heap_ltZ hbcr
    clear hbcr
    by_cases hlt : k < n
    · have hltI : (k : Int) < (n : Int) := by omega
      have hkf : k < ct.fs.length := by have := HNN.out; omega
      have hbel : Below w.heap.size w wr := bel2 HB1.out (show Below w1.heap.size w1 wr by rw [HBB.out]; exact HI.out.bel)
      obtain ⟨-, -, -, hfx⟩ := HF.out wr hbel
      obtain ⟨fa, hfa, hfb, QA, qc, ⟨p0, p1, p2, p3, p4, p5, p6, p7⟩, -⟩ := hfx k hkf
      subst hfa
      have hbx := HI.out.bx
      have hown := HI.out.own
      have HKF := Lib.hid hkf
      have HLT := Lib.hid hlt
      have x0 := (heap_at hbx 0).trans (rfl : _ = some (Value.string id))
      have x1 := (heap_at hbx 1).trans (rfl : _ = some (Value.string ct.name))
      have x2 := (heap_at hbx 2).trans (rfl : _ = some (Value.int .i64 0))
      have x3 := (heap_at hbx 3).trans (rfl : _ = some (row))
      have x4 := (heap_at hbx 4).trans (rfl : _ = some (Value.slice none 0 0))
      have x5 := (heap_at hbx 5).trans (rfl : _ = some (Value.bool false))
      have x6 := (heap_at hbx 6).trans (rfl : _ = some (Value.bool false))
      have x7 := (heap_at hbx 7).trans (rfl : _ = some (Value.int .i64 0))
      have xf := heap_free hbx
      have xl := heap_ltZ hbx
      have hfd : (ct.fs[k]).y = (ct.fs[k]).y := rfl
      generalize hf0 : ct.fs[k] = f at *
      have HF0 := Lib.hid hf0
      clear hf0 hfd hfx hlt hkf
      have HOW := Lib.hid ((ownD hown).alloc (.cells (vCells f.y).toArray 55))
      have hrw := rows_one wr.drew (vCells f.y) 55 5 rfl
      have HRW := Lib.hid hrw
      have hb1 : k + 1 ≤ maxLen := by have := HF6.out; have := HLT.out; unfold maxLen; omega
      have hb2 : (k + 1) * 48 ≤ 140737488355328 := by have := HF6.out; have := HLT.out; omega
      have HBS := Lib.hid (And.intro hb1 hb2)
      have HONE := Lib.hid (show ∀ u ∈ vCells f.y, u.oneCell' = true from by have h := vCells_one [f.y]; simpa using h)
      have hbz : b + 1 ≤ (wr.drew.alloc (.cells (vCells f.y).toArray 55)).heap.size := by have h := heap_ltZ hbx; rw [World.size_alloc]; exact Nat.succ_le_succ (Nat.le_of_lt h)
      have HBZ := Lib.hid hbz
      clear hb1 hb2 hbz hrw hown
      have hn6 := HF6.out
      go_upto_region 9 with fail
      go_region_law (refine step_append_rows rfl (.tmp 28) (.tmp 35) 42 rfl (b + 1) 55 i1 (.agg #[.int .i64 0, .int .i64 0, .bool false, .string ⟨#[]⟩, .float .f64 0]) 5 48 Tryz.underlying42 hi1 hz1 hsz1 hby1 rfl (by decide) _ k _ rfl HOW.out _ 1 (vCells f.y) rfl HRW.out HONE.out HBS.out.1 HBS.out.2 HBZ.out ?_; intro v4 w4 hown4 hgr4 hor4; obtain ⟨A4, c4, rfl⟩ := own_sliceX hown4; have HNX := Lib.hid (NwI.next1 HI.out.drew HKF.out (Nat.le_of_eq HBB.out) (by rw [← HF0.out] at hown4; exact hown4) hgr4); have hz4 := hgr4.size; have hbk4 := NwI.at1 HI.out.drew hgr4; have x43 := (heap_at hbk4 3).trans (rfl : _ = some row); have x4f := heap_free hbk4; clear hown4 hgr4 hor4)
      all_goals go_wp2
      all_goals
        go_roundw
        case rel =>
          have hl6 := HLT.out
          exact ⟨k + 1, _, by omega, by go_num, HNX.out⟩
        case measure =>
          have hl6 := HLT.out
          simp [intOf]; omega
    · obtain rfl : k = n := by omega
      have hltI : ¬ (k : Int) < (k : Int) := by omega
      have hown := HI.out.own
      rw [show (ct.fs.take k).flatMap (fun f => vCells f.y) = (ct.fs.map Fld.y).flatMap vCells by rw [← HNN.out, List.take_length, List.flatMap_map]] at hown
      have hlen : (ct.fs.map Fld.y).length = k := by rw [List.length_map]; exact HNN.out
      obtain ⟨A4, c4, rfl, hvn⟩ := vlN_own (T := fun m => w.heap.size + 1 < m) hown fun m hm => by have := HWB.out; omega
      have HVN := Lib.hid hvn
      have hbx := HI.out.bx
      have x0 := (heap_at hbx 0).trans (rfl : _ = some (Value.string id))
      have x1 := (heap_at hbx 1).trans (rfl : _ = some (Value.string ct.name))
      have x2 := (heap_at hbx 2).trans (rfl : _ = some (Value.int .i64 0))
      have x3 := (heap_at hbx 3).trans (rfl : _ = some (Value.slice A4 (ct.fs.map Fld.y).length c4))
      have x4 := (heap_at hbx 4).trans (rfl : _ = some (Value.slice none 0 0))
      have x5 := (heap_at hbx 5).trans (rfl : _ = some (Value.bool false))
      have x6 := (heap_at hbx 6).trans (rfl : _ = some (Value.bool false))
      have x7 := (heap_at hbx 7).trans (rfl : _ = some (Value.int .i64 0))
      have xf := heap_free hbx
      have xl := heap_ltZ hbx
      have hbk := (HI.out.bel.block (w.heap.size + 1) (by have := HWB.out; omega)).trans HBK.out
      have k0 := (heap_at hbk 0).trans (rfl : _ = some (Value.string ⟨#[]⟩))
      have k1 := (heap_at hbk 1).trans (rfl : _ = some (Value.string ⟨#[]⟩))
      have k2 := (heap_at hbk 2).trans (rfl : _ = some (Value.int .i64 0))
      have k3 := (heap_at hbk 3).trans (rfl : _ = some (Value.slice none 0 0))
      have k4 := (heap_at hbk 4).trans (rfl : _ = some (Value.slice none 0 0))
      have k5 := (heap_at hbk 5).trans (rfl : _ = some (Value.bool false))
      have k6 := (heap_at hbk 6).trans (rfl : _ = some (Value.bool false))
      have k7 := (heap_at hbk 7).trans (rfl : _ = some (Value.int .i64 0))
      have kf := heap_free hbk
      have kl := heap_ltZ hbk
      clear hown hvn hbx hbk
      go_wp2
      exact bodyPost_ret (v := .tuple #[.agg (csK ⟨id, ct.name, 0, ct.fs.map Fld.y, [], false, false, 0⟩ A4 c4 none 0), .int .i64 0]) (by simp [results, Tryz.results21, go_sem, k0, k1, k2, k3, k4, k5, k6, k7, kl, HNN.out]) rfl (GivesK.mk (r := (⟨id, ct.name, 0, ct.fs.map Fld.y, [], false, false, 0⟩, 0)) (Nat.le_succ _) ⟨HVN.out, RowN.nil _ _ _ _⟩ (bel2 HB1.out (show Below w1.heap.size w1 wr by rw [HBB.out]; exact HI.out.bel)) _ _ _ _ _ _ _ _)

end Go.Proofs.YtachhcabgggimaaGreat
