/- Layer 3: the program's authority: made, signing, asked. -/
import Derived.Test.YtlbbehhjehpefaaATab
import Derived.Deep.RegionHeld3
import Derived.Deep.QuietTactic
import Derived.BigQuiet
import Derived.Laws.ResultCell
import Derived.Laws.Rows
namespace Go.Proofs.Ytlbbehhjehpefaa
open Go.RowKit
set_option linter.unusedVariables false

/-- a result that lies in memory as a struct, and one behind it -/
theorem results_cell2 {P : Program} {fn : Func} {p u : Tmp} {ty : TypeId} (h : fn.results = #[.cell p ty, .tmp u]) (tmps : Array Value) (w : World) (g : Nat) (t : TypeId) (cs : Array Value) (fr : Nat × Nat) (d : TypeDesc)
    (hp : tmps.getD p undef = .pointer (some ⟨g, 0, none⟩)) (hg : w.heap[g]? = some (.cells cs t fr))
    (hu : P.underlying ty = some d) (hd : (match d with | .struct _ | .array _ _ => true | _ => false) = true) (hi : (P.info? ty).map (·.size) = some cs.size) :
    (results fn tmps).run P w = .ok (.tuple #[.agg cs, tmps.getD u undef]) w := by
  rw [results_cell_tmp h, hp]
  simp [asAddr, run_loadVar_row w g t ty cs fr d hg hu hd hi, Result.andThen]
theorem envSize : (Try.prog.info? 40).map (·.size) = some 2 := by kernel_rfl

/-- the program's authority that knows f and c, and to which L was signed -/
def Au (w : World) (g bm : Nat) (f c : Int) (L : List (Int × List UInt8)) : Prop := AuH w g bm f c ∧ Tab w bm L

section
variable {w w' : World} {g bm : Nat} {f c : Int} {L : List (Int × List UInt8)}
theorem AuH.kept {row : Option Nat} (h : AuH w g bm f c) (hg : w.grownBy w' row) (hne : some g ≠ row) : AuH w' g bm f c :=
  ⟨(hg.block g (Array.getElem?_eq_some_iff.1 h.1).1 hne).trans h.1, h.2⟩
theorem AuH.lt (h : AuH w g bm f c) : g < w.heap.size := (Array.getElem?_eq_some_iff.1 h.1).1
theorem AuH.below {B : Nat} (h : AuH w g bm f c) (hb : Below B w w') (hB : w.heap.size ≤ B) : AuH w' g bm f c :=
  ⟨(hb.block g (Nat.lt_of_lt_of_le h.lt hB)).trans h.1, h.2⟩
theorem Au.below {B : Nat} (h : Au w g bm f c L) (hb : Below B w w') (hB : w.heap.size ≤ B) : Au w' g bm f c L := ⟨h.1.below hb hB, h.2.below hb hB⟩
theorem Au.ne (h : Au w g bm f c L) : g ≠ bm := h.2.no_cell ⟨g, 0, none⟩ _ h.1.open.1
theorem Au.map (h : Au w g bm f c L) : ∃ es clock, w.heap[bm]? = some (.map es clock) := by
  obtain ⟨-, D, ⟨es, clock, hb, -⟩, -⟩ := h
  exact ⟨es, clock, hb⟩
end

/-- an envelope in memory -/
def Ev (w : World) (h : Nat) (x y : Value) : Prop := w.heap[h]? = some (.cells #[x, y] 40 (0, 0))
theorem Ev.open {w : World} {h : Nat} {x y : Value} (he : Ev w h x y) : w.cell? ⟨h, 0, none⟩ = some x ∧ w.cell? ⟨h, 1, none⟩ = some y ∧ w.frozen? ⟨h, 0, none⟩ = false ∧ w.frozen? ⟨h, 1, none⟩ = false ∧ h < w.heap.size :=
  ⟨(cell_of_row w h 0 _ _ (0, 0) he).trans rfl, (cell_of_row w h 1 _ _ (0, 0) he).trans rfl, by have he' : w.heap[h]? = _ := he; simp [World.frozen?, he'], by have he' : w.heap[h]? = _ := he; simp [World.frozen?, he'], (Array.getElem?_eq_some_iff.1 he).1⟩
theorem Ev.set2 {w : World} {h : Nat} {x y : Value} (he : Ev w h x y) (x' y' : Value) : Ev ((w.setCell ⟨h, 0, none⟩ x').setCell ⟨h, 1, none⟩ y') h x' y' := by
  have he' : w.heap[h]? = _ := he
  simp [Ev, World.setCell, Array.getElem?_modify, he']
theorem Ev.below {w w' : World} {h : Nat} {x y : Value} (he : Ev w h x y) (hb : Below w.heap.size w w') : Ev w' h x y := (hb.block h he.open.2.2.2.2).trans he
theorem Ev.kept {w w' : World} {h : Nat} {x y : Value} {row : Option Nat} (he : Ev w h x y) (hg : w.grownBy w' row) (hne : some h ≠ row) : Ev w' h x y := (hg.block h he.open.2.2.2.2 hne).trans he
theorem grown_new {w w4 w' : World} {row : Option Nat} {h : Nat} (hg : w.grownBy w4 row) (h4 : w4.grownBy w' (some h)) (hh : w.heap.size ≤ h) : w.grownBy w' row :=
  ⟨h4.os.trans hg.os, h4.tape.trans hg.tape, h4.output.trans hg.output, Nat.le_trans hg.size h4.size, fun k hk hne => (h4.block k (Nat.lt_of_lt_of_le hk hg.size) (by intro e; injection e with e; omega)).trans (hg.block k hk hne)⟩
theorem grown_below {w w4 w' : World} {row : Option Nat} (hg : w.grownBy w4 row) (hb : Below w4.heap.size w4 w') : w.grownBy w' row :=
  ⟨hb.os.trans hg.os, hb.tape.trans hg.tape, hb.output.trans hg.output, Nat.le_trans hg.size hb.size, fun k hk hne => (hb.block k (Nat.lt_of_lt_of_le hk hg.size)).trans (hg.block k hk hne)⟩
theorem below_then {w w4 w' : World} {row : Option Nat} (hb : Below w.heap.size w w4) (hg : w4.grownBy w' row) : w.grownBy w' row :=
  ⟨hg.os.trans hb.os, hg.tape.trans hb.tape, hg.output.trans hb.output, Nat.le_trans hb.size hg.size, fun k hk hne => (hg.block k (Nat.lt_of_lt_of_le hk hb.size) hne).trans (hb.block k hk)⟩
/-- what is read is as it was while a map turns -/
theorem Bs.besideMap {w w' : World} {v : Value} {l : List UInt8} {b : Nat} {es : Array MapEntry} {clock : Nat} (h : Bs w v l) (hm : w.heap[b]? = some (.map es clock)) (hg : w.grownBy w' (some b)) : Bs w' v l :=
  h.grown hg fun hne k hk e => by
    injection e with e
    subst e
    obtain ⟨A, c, rfl, -, -, -, hx⟩ := h.open
    obtain ⟨ad, rfl, -, hc⟩ := hx hne
    simp [Value.ownBlock] at hk
    have h0 := hc 0 (List.length_pos_iff.2 hne)
    rw [Addr.add_zero'] at h0
    simp [World.cell?, hk, hm] at h0

/-- what signing answers; what stands in the table behind it -/
def signE (f c s : Int) (l : List UInt8) : Int := if knB f c s = true then (if 16777216 < l.length then 11 else 0) else 30
def signS (f c s : Int) (l : List UInt8) : Int := if signE f c s l = 0 then s else 0
def signL (f c s : Int) (l : List UInt8) : List UInt8 := if signE f c s l = 0 then l else []
def signT (f c s : Int) (l : List UInt8) (L : List (Int × List UInt8)) : List (Int × List UInt8) := if signE f c s l = 0 then addP L s l else L
/-- what asking answers -/
def checkE (f c s : Int) (l : List UInt8) (L : List (Int × List UInt8)) : Int := if knB f c s = true then (if (s, l) ∈ L then 0 else 31) else 30

theorem signE_no {f c s : Int} {l : List UInt8} (h : knB f c s = false) : signE f c s l = 30 := by unfold signE; rw [h]; rfl
theorem signE_long {f c s : Int} {l : List UInt8} (h : knB f c s = true) (h2 : 16777216 < l.length) : signE f c s l = 11 := by unfold signE; rw [if_pos h, if_pos h2]
theorem signE_ok {f c s : Int} {l : List UInt8} (h : knB f c s = true) (h2 : ¬ 16777216 < l.length) : signE f c s l = 0 := by unfold signE; rw [if_pos h, if_neg h2]

/-- a clone's row is owned -/
def GivesO (w : World) (l : List UInt8) (e : Ending) (w' : World) : Prop := ∃ v', e = .returned v' ∧ w'.ownsRow w.heap.size 5 1 v' l.length (l.map bc) ∧ Below w.heap.size w w'
set_option maxHeartbeats 400000 in
theorem Clone_own (v : Value) (l : List UInt8) (w : World) (hv : Bs w v l) (hl : l.length ≤ 140737488355320) : Calls Try.prog 43 #[v] w (GivesO w l) := by
  obtain ⟨i0, hi, hz0, hz1, hz2⟩ := info_parts u8info
  obtain ⟨A, c, rfl, hc, hmx, hn, -⟩ := hv.open
  rcases A with _ | ad
  · have hc0 := hn rfl
    subst hc0
    have hl0 : l = [] := List.eq_nil_of_length_eq_zero (by omega)
    subst hl0
    clear hn hv
    have he := fun (w : World) => Lib.run_eql_slice_nil (P := Try.prog) w 34 5 none 0 0 0 0 Try.underlying34
    simp only [List.length_nil]
    go_enter Try.func43, Try.ntmps43
    go_wp2
    go_ret
    exact ⟨_, rfl, World.ownsRow_nil _ _ _ _, Below.refl _ _⟩
  · clear hn
    have hv' : Rd w (.slice (some ad) l.length c) (l.map bc) := hv
    have HV := Lib.hid hv'
    clear hv hv'
    have he := fun (w : World) => Lib.run_eql_slice_nil (P := Try.prog) w 34 5 (some ad) l.length c 0 0 Try.underlying34
    go_enter Try.func43, Try.ntmps43
    go_wp2_with (at_builtin; refine wpList_append_rd _ rfl _ _ 34 rfl w.heap.size 5 i0 (.int .u8 0) 1 Try.underlying34 hi hz0 hz1 hz2 rfl _ _ _ rfl (own_empty _ _ _ _ (by simp) (by simp)) _ _ rfl (Rd.below HV.out ((Below.refl w.heap.size w).alloc (Nat.le_refl _) _) (Nat.le_refl _)) (bc_one l) (by simp; unfold maxLen; omega) (by simp; omega) (by simp) ?_; intro v2 w2 hown2 hg2)
    go_ret
    refine ⟨_, rfl, by simpa using hown2, ?_⟩
    exact ((Below.refl w.heap.size w).alloc (Nat.le_refl _) _).grown hg2 (by simp) (by intro k h; injection h with h; simp only at h; omega)

/-- what the program's Sign leaves, the row owned -/
def SignsO (g bm : Nat) (f c s : Int) (l : List UInt8) (L : List (Int × List UInt8)) (w : World) (e : Ending) (w' : World) : Prop :=
  ∃ v', e = .returned (.tuple #[.agg #[.int .i64 (signS f c s l), v'], .int .i64 (signE f c s l)]) ∧ w'.ownsRow w.heap.size 5 1 v' (signL f c s l).length ((signL f c s l).map bc) ∧ Au w' g bm f c (signT f c s l L) ∧ w.grownBy w' (some bm)
theorem own_keep0 {w w' : World} {B e sz n : Nat} {v : Value} {xs : List Value} (h : w.ownsRow B e sz v n xs) (hk : ∀ k, v.ownBlock = some k → w'.heap[k]? = w.heap[k]?) : w'.ownsRow B e sz v n xs := by
  obtain ⟨h1, h2⟩ := h
  refine ⟨h1, ?_⟩
  rcases h2 with h2 | ⟨g, cap, cur, rfl, hb, hg, hr⟩
  · exact .inl h2
  · exact .inr ⟨g, cap, cur, rfl, hb, (hk g rfl).trans hg, hr⟩
theorem own_base {w : World} {B B' n : Nat} {e sz : Nat} {v : Value} {xs : List Value} (h : w.ownsRow B' e sz v n xs) (hB : B ≤ B') : w.ownsRow B e sz v n xs := by
  obtain ⟨h1, h2⟩ := h
  refine ⟨h1, ?_⟩
  rcases h2 with h2 | ⟨g, cap, cur, h3, h4, h5⟩
  · exact .inl h2
  · exact .inr ⟨g, cap, cur, h3, Nat.le_trans hB h4, h5⟩
/-- what the program's Sign leaves -/
def Signs (g bm : Nat) (f c s : Int) (l : List UInt8) (L : List (Int × List UInt8)) (w : World) (e : Ending) (w' : World) : Prop :=
  ∃ v', e = .returned (.tuple #[.agg #[.int .i64 (signS f c s l), v'], .int .i64 (signE f c s l)]) ∧ Bs w' v' (signL f c s l) ∧ New w.heap.size v' ∧ Au w' g bm f c (signT f c s l L) ∧ w.grownBy w' (some bm)

set_option maxHeartbeats 1000000 in
theorem Sign_own (g bm : Nat) (f c s : Int) (v : Value) (l : List UInt8) (L : List (Int × List UInt8)) (w : World) (h : Au w g bm f c L) (hs : ok64 s) (hv : Bs w v l) (hl : l.length ≤ 1000000000) (hL : L.length ≤ 1000000000) :
    Calls Try.prog 18 #[.pointer (some ⟨g, 0, none⟩), .int .i64 s, v] w (SignsO g bm f c s l L w) := by
  rcases hk : knB f c s with _ | _
  · have he := signE_no (l := l) hk
    unfold SignsO signS signL signT
    rw [he]
    simp only [show ((30 : Int) = 0) = False by simp, if_false]
    have HB := Lib.hid hv
    have HK := Lib.hid hk
    clear hk he hv
    go_enter Try.func18, Try.ntmps18
    go_wp2_with (first
      | (go_at_call 38; refine (Known_any (h.1.below ((Below.refl _ _).alloc (Nat.le_refl _) _) (Nat.le_refl _)) s hs).mono ?_; rw [HK.out]; rintro e w' ⟨rfl, rfl⟩))
    (try simp only [Exit.inBlock, Exit.then])
    refine bodyPost_ret (results_cell2 rfl _ _ w.heap.size 40 _ (0, 0) _ rfl (heap_alloc_new _ _) Try.underlying40 rfl envSize) rfl ?_
    exact ⟨_, rfl, World.ownsRow_nil _ _ _ _, h.below ((Below.refl _ _).alloc (Nat.le_refl _) _) (Nat.le_refl _), (World.grownBy_alloc _ _ _)⟩
  · by_cases hlong : 16777216 < l.length
    · have he := signE_long (l := l) hk hlong
      unfold SignsO signS signL signT
      rw [he]
      simp only [show ((11 : Int) = 0) = False by simp, if_false]
      obtain ⟨A, cc, rfl, -⟩ := hv.open
      have HK := Lib.hid hk
      have hlI : (16777216 : Int) < (l.length : Int) := by omega
      clear hk he hv
      go_enter Try.func18, Try.ntmps18
      go_wp2_with (first
        | (go_at_call 38; refine (Known_any (h.1.below ((Below.refl _ _).alloc (Nat.le_refl _) _) (Nat.le_refl _)) s hs).mono ?_; rw [HK.out]; rintro e w' ⟨rfl, rfl⟩))
      (try simp only [Exit.inBlock, Exit.then])
      refine bodyPost_ret (results_cell2 rfl _ _ w.heap.size 40 _ (0, 0) _ rfl (heap_alloc_new _ _) Try.underlying40 rfl envSize) rfl ?_
      exact ⟨_, rfl, World.ownsRow_nil _ _ _ _, h.below ((Below.refl _ _).alloc (Nat.le_refl _) _) (Nat.le_refl _), (World.grownBy_alloc _ _ _)⟩
    · have he := signE_ok (l := l) hk hlong
      unfold SignsO signS signL signT
      rw [he]
      simp only [if_true]
      have HB := Lib.hid hv
      have HK := Lib.hid hk
      have hlI : (l.length : Int) ≤ 16777216 := by omega
      have hp : okP s l := ⟨hs, by unfold maxLen; omega⟩
      obtain ⟨A, cc, rfl, -⟩ := hv.open
      clear hk he hv
      go_enter Try.func18, Try.ntmps18
      go_wp2_with (first
        | (go_at_call 38; refine (Known_any (h.1.below ((Below.refl _ _).alloc (Nat.le_refl _) _) (Nat.le_refl _)) s hs).mono ?_; rw [HK.out]; rintro e w' ⟨rfl, rfl⟩))
      have hb0 : Below w.heap.size w (w.alloc (.cells #[.int .i64 0, .slice none 0 0] 40)) := (Below.refl _ _).alloc (Nat.le_refl _) _
      have hA := h.below hb0.drew (Nat.le_refl _)
      have hs1 := run_str (w := (w.alloc (.cells #[.int .i64 0, .slice none 0 0] 40)).drew) (HB.out.below hb0.drew (Nat.le_refl _))
      obtain ⟨c0, c1, c2, c3⟩ := hA.1.open
      obtain ⟨w3, hput, hT3, hg3, hz3⟩ := hA.2.put (by unfold maxLen; omega) hp
      generalize hwv : (w.alloc (.cells #[.int .i64 0, .slice none 0 0] 40)).drew = wv at *
      go_region
      have hA3 : Au w3 g bm f c (addP L s l) := ⟨hA.1.kept hg3 (by simpa using hA.ne), hT3⟩
      have hbelow : Below w.heap.size w wv := by rw [← hwv]; exact hb0.drew
      have hev : Ev wv w.heap.size (.int .i64 0) (.slice none 0 0) := by rw [← hwv]; exact heap_alloc_new _ _
      have hne : w.heap.size ≠ bm := by have := h.2.lt; omega
      have hev3 := hev.kept hg3 (by simpa using hne)
      obtain ⟨es, clock, hmap⟩ := hA.map
      have hB3 : Bs w3 (.slice A l.length cc) l := (HB.out.below hbelow (Nat.le_refl _)).besideMap hmap hg3
      have hz0 : w.heap.size < w3.heap.size := hev3.open.2.2.2.2
      have HG3 := Lib.hid hg3
      have HBE := Lib.hid hbelow
      clear hput c0 c1 c2 c3 hs1 hb0 hwv hmap hev hT3 hg3 hbelow
      go_wp2_with (first
        | (go_at_call 43; refine (Clone_own _ l _ hB3 (by omega)).mono ?_; rintro e w4 ⟨v4, rfl, ho4, hb4⟩; have h4 : Bs w4 v4 l := Rd.of_own ho4; have hn4 : New w3.heap.size v4 := New.of_own ho4; obtain ⟨d0, d1, z0, z1, hlt4⟩ := (hev3.below hb4).open; obtain ⟨A4, c4, rfl, -⟩ := h4.open))
      have hon : w4.grownBy ((w4.setCell ⟨w.heap.size, 0, none⟩ (.int .i64 s)).setCell ⟨w.heap.size, 1, none⟩ (.slice A4 l.length c4)) (some w.heap.size) := (Only.set (Only.set (Only.refl _ _) 0 _) 1 _)
      (try simp only [Exit.inBlock, Exit.then])
      refine bodyPost_ret (results_cell2 rfl _ _ w.heap.size 40 _ (0, 0) _ rfl ((hev3.below hb4).set2 _ _) Try.underlying40 rfl envSize) rfl ?_
      refine ⟨_, rfl, own_base (own_keep0 ho4 fun k hk => ?_) (Nat.le_of_lt hz0), ⟨(hA3.1.below hb4 (Nat.le_refl _)).kept hon ?_, (hA3.2.below hb4 (Nat.le_refl _)).kept hon (by simpa using hne.symm)⟩, grown_new (grown_below (below_then HBE.out HG3.out) hb4) hon (Nat.le_refl _)⟩
      · exact hon.block k (ho4.lt k hk).2 (by intro e; injection e with e; have := hn4 k hk; omega)
      · have := h.1.lt
        intro e
        injection e with e
        omega

theorem Sign_any (g bm : Nat) (f c s : Int) (v : Value) (l : List UInt8) (L : List (Int × List UInt8)) (w : World) (h : Au w g bm f c L) (hs : ok64 s) (hv : Bs w v l) (hl : l.length ≤ 1000000000) (hL : L.length ≤ 1000000000) :
    Calls Try.prog 18 #[.pointer (some ⟨g, 0, none⟩), .int .i64 s, v] w (Signs g bm f c s l L w) :=
  (Sign_own g bm f c s v l L w h hs hv hl hL).mono fun _ _ ⟨v', h1, h2, h3, h4⟩ => ⟨v', h1, Rd.of_own h2, New.of_own h2, h3, h4⟩
end Go.Proofs.Ytlbbehhjehpefaa
