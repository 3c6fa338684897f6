/- Layer 3: distinct replicas counted, by the program and by the document. -/
import Derived.Test.YtlbbehhjehpefaaAPure
import Derived.Test.YtlbbehhjehpefaaARefS
namespace Go.Proofs.Ytlbbehhjehpefaa
open Go.RowKit
set_option linter.unusedVariables false

theorem intinfo : (Try.prog.info? 3).map (fun i => (i.zero, i.size, i.bytes)) = some (some (.int .i64 0), 1, 8) := by kernel_rfl

/-- the slice value v reads as the numbers -/
def ic (x : Int) : Value := .int .i64 x
def Ns (w : World) (v : Value) (l : List Int) : Prop := Rd w v (l.map ic)
theorem ic_one (l : List Int) : ∀ u ∈ l.map ic, u.oneCell' = true := by
  intro u hu
  obtain ⟨b, _, rfl⟩ := List.mem_map.1 hu
  rfl
theorem Ns.below {w w' : World} {v : Value} {l : List Int} {B : Nat} (h : Ns w v l) (hb : Below B w w') (hB : w.heap.size ≤ B) : Ns w' v l := Rd.below h hb hB
theorem Ns.drewN {w : World} {v : Value} {l : List Int} (h : Ns w v l) (n : Nat) : Ns (w.drewN n) v l := h
theorem Ns.nil (w : World) : Ns w (.slice none 0 0) [] := Rd.nil w
theorem Ns.open {w : World} {v : Value} {l : List Int} (h : Ns w v l) : ∃ A c, v = .slice A l.length c ∧ l.length ≤ c ∧ c ≤ maxLen ∧ (∀ k (hk : k < l.length), ∃ ad, A = some ad ∧ w.cell? (ad.add k) = some (.int .i64 l[k])) := by
  obtain ⟨A, c, hv, hc, hm, hn, hx⟩ := h
  rw [List.length_map] at hv hc
  refine ⟨A, c, hv, hc, hm, fun k hk => ?_⟩
  obtain ⟨ad, ha, hb, hr⟩ := hx (by intro e; have := congrArg List.length e; simp at this; subst this; simp at hk)
  exact ⟨ad, ha, hr k _ (by simp [hk, ic])⟩

theorem mem_take {l : List Int} {x : Int} {k : Nat} (hlt : k < l.length) : x ∈ l.take (k + 1) ↔ x ∈ l.take k ∨ x = l[k] := by
  rw [List.take_succ_eq_append_getElem hlt, List.mem_append, List.mem_singleton]

/-- where x stands in l -/
def Where (x : Int) (l : List Int) (w : World) (e : Ending) (w' : World) : Prop := ∃ n : Int, e = .returned (.int .i64 n) ∧ (decide (0 ≤ n) = decide (x ∈ l)) ∧ w' = w

set_option maxHeartbeats 1000000 in
theorem Index_any (v : Value) (l : List Int) (x : Int) (w : World) (h : Ns w v l) : Calls Try.prog 49 #[v, .int .i64 x] w (Where x l w) := by
  obtain ⟨A, c, rfl, hc, hm, hx⟩ := h.open
  have hll : l.length ≤ 9223372036854775807 := by have := hm; unfold maxLen at this; omega
  have HX := Lib.hid hx
  clear h hx hc hm
  go_enter Try.func49, Try.ntmps49
  go_wp2
  go_loop [8] (fun i => ∃ k : Nat, k ≤ l.length ∧ i = .int .i64 k ∧ x ∉ l.take k) (fun i => l.length - (intOf i).toNat)
  case atStart => exact ⟨0, Nat.zero_le _, rfl, by simp⟩
  case round =>
    obtain ⟨k, hk, rfl, hall⟩ := hrel
    have HALL := Lib.hid hall
    clear hall
    by_cases hlt : k < l.length
    · obtain ⟨ad, rfl, hcell⟩ := HX.out k hlt
      by_cases he : x = l[k]
      · go_wp2
        go_ret
        exact ⟨_, rfl, by simp, rfl⟩
      · have HN := Lib.hid (show x ∉ l.take (k + 1) from fun hi => by rcases (mem_take hlt).1 hi with hi | hi; exact HALL.out hi; exact he hi)
        go_wp2
        go_round
        case rel => exact ⟨k + 1, by omega, by go_num, HN.out⟩
        case measure => simp [intOf]; omega
    · obtain rfl : k = l.length := by omega
      have HIN := Lib.hid (show decide ((0 : Int) ≤ (-1 : Int)) = decide (x ∈ l) by have := HALL.out; rw [List.take_length] at this; simp [this])
      go_wp2
      go_ret
      exact ⟨_, rfl, HIN.out, rfl⟩

theorem Contains_any (v : Value) (l : List Int) (x : Int) (w : World) (h : Ns w v l) : Calls Try.prog 44 #[v, .int .i64 x] w (Says (.bool (decide (x ∈ l))) w) := by
  go_enter Try.func44, Try.ntmps44
  go_wp2_with (first
    | (go_at_call 49; refine (Index_any v l x _ h).mono ?_; rintro e w' ⟨n, rfl, hn, rfl⟩))
  go_ret
  exact ⟨rfl, rfl⟩

theorem in_any (v : Value) (l : List Int) (x : Int) (w : World) (h : Ns w v l) : Calls Try.prog 45 #[.int .i64 x, v] w (Says (.bool (decide (x ∈ l))) w) := by
  obtain ⟨A, c, rfl, hc, hm, hx⟩ := h.open
  have hll : l.length ≤ 9223372036854775807 := by have := hm; unfold maxLen at this; omega
  have HX := Lib.hid hx
  clear h hx hc hm
  go_enter Try.func45, Try.ntmps45
  go_wp2
  go_loop [5] (fun i => ∃ k : Nat, k ≤ l.length ∧ i = .int .i64 k ∧ x ∉ l.take k) (fun i => l.length - (intOf i).toNat)
  case atStart => exact ⟨0, Nat.zero_le _, rfl, by simp⟩
  case round =>
    obtain ⟨k, hk, rfl, hall⟩ := hrel
    have HALL := Lib.hid hall
    clear hall
    by_cases hlt : k < l.length
    · obtain ⟨ad, rfl, hcell⟩ := HX.out k hlt
      by_cases he : l[k] = x
      · have HIN := Lib.hid (show true = decide (x ∈ l) by rw [← he]; simp)
        go_wp2
        go_ret
        exact ⟨ret_bool HIN.out, rfl⟩
      · have HN := Lib.hid (show x ∉ l.take (k + 1) from fun hi => by rcases (mem_take hlt).1 hi with hi | hi; exact HALL.out hi; exact he hi.symm)
        go_wp2
        go_round
        case rel => exact ⟨k + 1, by omega, by go_num, HN.out⟩
        case measure => simp [intOf]; omega
    · obtain rfl : k = l.length := by omega
      have HIN := Lib.hid (show false = decide (x ∈ l) by have := HALL.out; rw [List.take_length] at this; simp [this])
      go_wp2
      go_ret
      exact ⟨ret_bool HIN.out, rfl⟩

/-- how many of the first k replicas are among l -/
def cntK (l : List Int) (k : Nat) : Nat := (List.range k).countP fun r : Nat => decide ((r : Int) ∈ l)
theorem cntK_succ (l : List Int) (k : Nat) : cntK l (k + 1) = cntK l k + if decide ((k : Int) ∈ l) = true then 1 else 0 := by
  unfold cntK
  rw [List.range_succ, List.countP_append, List.countP_singleton]
theorem cntK_le (l : List Int) (k : Nat) : cntK l k ≤ k := by
  have := List.countP_le_length (p := fun r : Nat => decide ((r : Int) ∈ l)) (l := List.range k)
  rwa [List.length_range] at this

set_option maxHeartbeats 1000000 in
theorem auCount_any (g bm : Nat) (f c : Int) (v : Value) (l : List Int) (w : World) (h : AuH w g bm f c) (hv : Ns w v l) :
    Calls Try.prog 22 #[.pointer (some ⟨g, 0, none⟩), v] w (Says (.int .i64 (cntP f l)) w) := by
  obtain ⟨n, hn⟩ : ∃ n : Nat, 3 * f + 1 = n := ⟨(3 * f + 1).toNat, by have := h.2.1; omega⟩
  have hn7 : n ≤ 7 := by have := h.2.2.1; omega
  have hcn : cntP f l = cntK l n := by unfold cntP cntK; rw [hn]; rfl
  have hN := N_any h
  rw [hn] at hN
  rw [hcn]
  have HN := Lib.hid hN
  have HCO := Lib.hid (fun x : Int => Contains_any v l x w hv)
  clear hN hn hcn h hv
  go_enter Try.func22, Try.ntmps22
  go_wp2_with (first
    | (go_at_call 29; refine HN.out.mono ?_; rintro e w' ⟨rfl, rfl⟩))
  go_loop [5, 9] (fun m i => ∃ k : Nat, k ≤ n ∧ i = .int .i64 k ∧ m = .int .i64 (cntK l k)) (fun _ i => n - (intOf i).toNat)
  case atStart => exact ⟨0, Nat.zero_le _, rfl, rfl⟩
  case round =>
    obtain ⟨k, hk, rfl, rfl⟩ := hrel
    have hck := cntK_le l k
    have hcs := cntK_succ l k
    by_cases hlt : k < n
    · have hC := HCO.out k
      rcases hd : decide ((k : Int) ∈ l) with _ | _
      · rw [hd] at hC hcs
        have HC := Lib.hid hC
        have HCS := Lib.hid hcs
        clear hd hC hcs
        go_wp2_with (first
          | (go_at_call 44; refine HC.out.mono ?_; rintro e w' ⟨rfl, rfl⟩))
        go_round
        case rel => exact ⟨k + 1, by omega, by go_num, by rw [HCS.out]; simp⟩
        case measure => simp [intOf]; omega
      · rw [hd] at hC hcs
        have HC := Lib.hid hC
        have HCS := Lib.hid hcs
        clear hd hC hcs
        go_wp2_with (first
          | (go_at_call 44; refine HC.out.mono ?_; rintro e w' ⟨rfl, rfl⟩))
        go_round
        case rel => exact ⟨k + 1, by omega, by go_num, by rw [HCS.out]; go_num⟩
        case measure => simp [intOf]; omega
    · obtain rfl : k = n := by omega
      clear hcs
      go_wp2
      go_ret
      exact ⟨rfl, rfl⟩

set_option maxHeartbeats 1000000 in
theorem raCount_any (g : Nat) (f c : Int) (va v : Value) (l : List Int) (w : World) (h : RaH w g f c va) (hv : Ns w v l) (hl : l.length ≤ 1000000) :
    Calls Try.prog 23 #[.pointer (some ⟨g, 0, none⟩), v] w fun e w' => e = .returned (.int .i64 (cntP f l)) ∧ Below w.heap.size w w' := by
  obtain ⟨i0, hi, hz0, hz1, hz2⟩ := info_parts intinfo
  have H := Lib.hid h
  have HV := Lib.hid hv
  have hf := h.2.1
  have hdl := ddS_length f hf l
  have HDL := Lib.hid hdl
  have hdle : ∀ k, (ddS f (l.take k)).length ≤ k := by
    intro k
    induction k with
    | zero => simp [ddS]
    | succ k ih =>
      by_cases hk : k < l.length
      · rw [ddS_take f l k hk]
        split
        · rw [List.length_append, List.length_singleton]; omega
        · omega
      · rw [List.take_of_length_le (by omega)] at ih ⊢; omega
  have HLE := Lib.hid hdle
  obtain ⟨A, cc, rfl, -, -, -⟩ := hv.open
  clear h hv hdl hdle
  go_enter Try.func23, Try.ntmps23
  go_wp2
  go_loopw [5, 6] (fun sv i wr => ∃ k : Nat, k ≤ l.length ∧ i = .int .i64 k ∧ wr.ownsRow w.heap.size 3 1 sv (ddS f (l.take k)).length ((ddS f (l.take k)).map ic) ∧ Below w.heap.size w wr) (fun _ i _ => l.length - (intOf i).toNat)
  case atStart => exact ⟨0, Nat.zero_le _, rfl, World.ownsRow_nil _ _ _ _, Below.refl _ _⟩
  case round =>
    obtain ⟨k, hk, rfl, hown, hbel⟩ := hrel
    have hlek := HLE.out k
    by_cases hlt : k < l.length
    · obtain ⟨A', c', e, -, -, hx⟩ := (HV.out.below hbel (Nat.le_refl _)).open
      injection e with e e2 e3
      subst e
      clear e2 e3
      obtain ⟨ad, rfl, hcell⟩ := hx k hlt
      clear hx
      have hts := ddS_take f l k hlt
      have hR := rReplica_any (w := wr) (g := g) (c := c) (v := va) ⟨(hbel.block g (Array.getElem?_eq_some_iff.1 H.out.1).1).trans H.out.1, H.out.2⟩ l[k]
      have hNs : Ns wr u5 (ddS f (l.take k)) := Rd.of_own hown
      have hI := in_any u5 (ddS f (l.take k)) l[k] wr hNs
      rcases hr : repB f l[k] with _ | _
      · rw [hr] at hts hR
        simp only [Bool.false_and, Bool.false_eq_true, if_false] at hts
        have HT := Lib.hid hts
        have HR := Lib.hid hR
        have HO := Lib.hid hown
        clear hts hR hr hI hNs hown
        go_wp2_with (first
          | (go_at_call 41; refine HR.out.mono ?_; rintro e w' ⟨rfl, hww⟩; rw [hww]; clear hww w'))
        go_roundw
        case rel => exact ⟨k + 1, by omega, by go_num, by rw [HT.out]; exact HO.out, hbel⟩
        case measure => simp [intOf]; omega
      · rcases hd : decide (l[k] ∈ ddS f (l.take k)) with _ | _
        · rw [hr, hd] at hts
          rw [hr] at hR
          rw [hd] at hI
          simp only [Bool.not_false, Bool.and_self, if_true] at hts
          have HT := Lib.hid hts
          have HR := Lib.hid hR
          have HI := Lib.hid hI
          have HN := Lib.hid hNs
          obtain ⟨As, cs, rfl, -, -, -⟩ := hNs.open
          clear hts hR hr hI hd hNs
          have hownB := hown.kept (World.grownBy_alloc wr (.cells #[.int .i64 l[k]] 3) none) (by cases h : (Value.slice As (ddS f (l.take k)).length cs).ownBlock <;> simp)
          go_wp2_with (first
            | (go_at_call 41; refine HR.out.mono ?_; rintro e w' ⟨rfl, hww⟩; rw [hww]; clear hww w')
            | (go_at_call 45; refine HI.out.mono ?_; rintro e w' ⟨rfl, hww⟩; rw [hww]; clear hww w')
            | (at_builtin; refine wpList_append_rd _ rfl (.tmp 28) (.tmp 33) 50 rfl w.heap.size 3 i0 (.int .i64 0) 8 Try.underlying50 hi hz0 hz1 hz2 rfl _ _ _ rfl hownB _ _ rfl (Rd.one _ _ _) (by intro u hu; simp at hu; subst hu; rfl) (by simp; unfold maxLen; omega) (by simp; omega) (by have := hbel.size; simp; omega) ?_; intro v2 w2 hown2 hg2))
          have hB2 : Below w.heap.size w w2 := (hbel.alloc hbel.size _).grown hg2 (by have := hbel.size; simp; omega) (fun g hg => (hownB.lt g hg).1)
          have hown3 : w2.ownsRow w.heap.size 3 1 v2 (ddS f (l.take (k + 1))).length ((ddS f (l.take (k + 1))).map ic) := by
            rw [HT.out]
            simpa [ic] using hown2
          clear hg2 hown2 hownB hown
          go_roundw
          case rel => exact ⟨k + 1, by omega, by go_num, hown3, hB2⟩
          case measure => simp [intOf]; omega
        · rw [hr, hd] at hts
          rw [hr] at hR
          rw [hd] at hI
          simp only [Bool.not_true, Bool.and_false, Bool.false_eq_true, if_false] at hts
          have HT := Lib.hid hts
          have HR := Lib.hid hR
          have HI := Lib.hid hI
          have HO := Lib.hid hown
          clear hts hR hr hI hd hNs hown
          go_wp2_with (first
            | (go_at_call 41; refine HR.out.mono ?_; rintro e w' ⟨rfl, hww⟩; rw [hww]; clear hww w')
            | (go_at_call 45; refine HI.out.mono ?_; rintro e w' ⟨rfl, hww⟩; rw [hww]; clear hww w'))
          go_roundw
          case rel => exact ⟨k + 1, by omega, by go_num, by rw [HT.out]; exact HO.out, hbel⟩
          case measure => simp [intOf]; omega
    · obtain rfl : k = l.length := by omega
      have hlen := HDL.out l.length (Nat.le_refl _)
      have hNs : Ns wr u5 (ddS f (l.take l.length)) := Rd.of_own hown
      obtain ⟨As, cs, rfl, -, -, -⟩ := hNs.open
      rw [hlen, List.take_length]
      clear hown hNs
      go_wp2
      go_ret
      exact ⟨rfl, hbel⟩
end Go.Proofs.Ytlbbehhjehpefaa
