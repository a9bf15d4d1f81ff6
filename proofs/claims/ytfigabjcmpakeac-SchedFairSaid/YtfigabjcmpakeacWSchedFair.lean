/- How wide a window each worker of any script steps in, how often each one does, and whether it is fair, is as the chapter says: the law SchedFair answers true. No condition. -/
import Derived.Test.YtfigabjcmpakeacPickG
import Derived.Test.YtfigabjcmpakeacGrids
namespace Go.Proofs.Ytfigabjcmpakeac.schedFair
open Go.ChangeShapes Go.WideShapes Go.ChangeAt Go.RowKit
open Go.Proofs.Ytfigabjcmpakeac.sch
set_option linter.unusedVariables false
set_option linter.unusedSimpArgs false
theorem view_of_rowIs {w : World} {B n : Nat} {f : Nat → Int} (h : w.rowIs B 3 n (fun j => .int .i64 (f j))) (hn : n ≤ 64) : View w (.slice (some ⟨B, 0, none⟩) n n) ((List.range n).map f) := by
  have hl : ((List.range n).map f).length = n := by simp
  have hv := view_of_cells (w := w) (n := B) (c := n) (xs := (List.range n).map f) (fun i hi => by
    rw [hl] at hi
    rw [rowIs_cell h hi]
    simp [hi]) h.lt (by rw [hl]; exact Nat.le_refl _) (by unfold maxLen; omega)
  rw [hl] at hv
  exact hv
def pk2 (z : Nat → Nat → Int) (k : Nat) : List PK := (List.range k).map fun i => (z i 0, z i 1)
set_option maxRecDepth 20000 in
set_option maxHeartbeats 4000000 in
theorem core (o : Option Addr) (len cap n : Nat) (xs : List PK) (wk wi m0 v : Int) (ok r : Bool) (w : World) (hl : len ≤ 120) (hx : PV w o len cap xs) (hnil : o = none → cap = 0) (a1 : (if wk < 1 then (1 : Int) else wk) = m0) (a2 : (if 64 < m0 then (64 : Int) else m0) = (n : Int)) (hok : Hid (an (ow xs n) len n = ok)) (hv : Hid ((if ok then ((wf (ow xs n) len n : Nat) : Int) else 0) = v)) (hr : Hid ((ok && decide (v ≤ wi)) = r)) :
    Calls Try.prog 3 #[.slice o len cap, .int .i64 wk, .int .i64 wi] w fun e w' => e = .returned (.bool true) ∧ Below w.heap.size w w' := by
  have hn2 : n ≤ 64 := by split at a1 <;> split at a2 <;> omega
  have hd1 : ¬ (120 : Int) < (len : Int) := by omega
  have hlen : xs.length = len := hx.1
  have hsm : xs.length ≤ 1000000 := by omega
  have HX := Lib.hid hx
  have HN := Lib.hid hnil
  have HL := Lib.hid hlen
  have A1 := Lib.hid a1
  have A2 := Lib.hid a2
  clear hx hnil a1 a2
  subst hlen
  go_enter Try.func3, Try.ntmps3
  go_wp2_with fail
  refine (works36 _).mono ?_
  rintro e w1 ⟨rfl, hb1⟩
  have HB1 := Lib.hid hb1
  clear hb1
  go_wp2_with (at_builtin; refine wpList_copyP rfl _ _ rfl w1.heap.size w1.heap.size rfl (heap_alloc_new w1 _) (Nat.le_refl _) xs o cap rfl (HX.out.below (HB1.out.alloc HB1.out.size _)) HN.out hsm ?_)
  intro v' w2 ho2 hb2
  obtain ⟨ov2, cv2, rfl, hpv2, _⟩ := ho2.out.form
  have hb2' : Below w.heap.size w w2 := (HB1.out.alloc HB1.out.size _).trans (hb2.mono HB1.out.size)
  have HP2 := Lib.hid hpv2
  have HB2 := Lib.hid hb2'
  clear hpv2 ho2 hb2 hb2'
  go_wp2_with fail
  refine (window_of _ xs.length _ n xs wk m0 v ok _ A1.out A2.out HP2.out (by omega) hok hv).mono ?_
  rintro e w3 ⟨rfl, hb3⟩
  have HP3 := Lib.hid (HP2.out.below hb3)
  have HB3 := Lib.hid (HB2.out.trans (hb3.mono HB2.out.size))
  clear hb3 HP2 HB2
  go_wp2_with fail
  refine (rwindow_of _ xs.length _ n xs wk m0 v ok _ A1.out A2.out (HX.out.below HB3.out) (by omega) hok hv).mono ?_
  rintro e w4 ⟨rfl, hb4⟩
  have HP4 := Lib.hid (HP3.out.below hb4)
  have HB4 := Lib.hid (HB3.out.trans (hb4.mono HB3.out.size))
  clear hb4 HP3 HB3
  have CF : Hid (∀ w', Below w4.heap.size w4 w' → Calls Try.prog 9 #[.slice ov2 xs.length cv2, .int .i64 wk, .int .i64 wi] w' fun e w'' => e = .returned (.bool r) ∧ Below w'.heap.size w' w'') := Lib.hid fun w' hb => fair_of _ xs.length _ n xs wk m0 v wi ok r w' A1.out A2.out (HP4.out.below hb) (by omega) hok hv hr
  have hcase : (ok = false ∧ r = false) ∨ (ok = true ∧ v ≤ wi ∧ r = true) ∨ (ok = true ∧ ¬ v ≤ wi ∧ r = false) := by
    have := hr.out
    cases ok
    · exact .inl ⟨rfl, this.symm⟩
    · by_cases h : v ≤ wi
      · exact .inr (.inl ⟨rfl, h, by rw [← this]; simp [h]⟩)
      · exact .inr (.inr ⟨rfl, h, by rw [← this]; simp [h]⟩)
  clear hr hok hv
  rcases hcase with ⟨rfl, rfl⟩ | ⟨rfl, hvw, rfl⟩ | ⟨rfl, hvw, rfl⟩
  all_goals
    go_wp2_with fail
    refine (CF.out _ (Below.refl _ _)).mono ?_
    rintro e w5 ⟨rfl, hb5⟩
    have HP5 := Lib.hid (HP4.out.below hb5)
    have HB5 := Lib.hid (HB4.out.trans (hb5.mono HB4.out.size))
    clear hb5 HP4 HB4 CF
    go_wp2_with fail
    refine (count_of _ xs.length _ n xs wk m0 _ A1.out A2.out HP5.out (by omega)).mono ?_
    rintro e w6 ⟨rfl, hr6, hb6⟩
    have HV6 := Lib.hid (view_of_rowIs (f := fun j => (cn (ow xs n) xs.length j : Nat)) hr6 hn2)
    have HB6 := Lib.hid (HB5.out.trans (hb6.mono HB5.out.size))
    clear hb6 hr6 HP5 HB5
    go_wp2_with fail
    refine (rcount_of _ xs.length _ n xs wk m0 _ A1.out A2.out (HX.out.below HB6.out) (by omega)).mono ?_
    rintro e w7 ⟨rfl, hr7, hb7⟩
    have HV7 := Lib.hid (view_of_rowIs (f := fun j => (cn (ow xs n) xs.length j : Nat)) hr7 hn2)
    have HV8 := Lib.hid (HV6.out.below hb7)
    have HB7 := Lib.hid (HB6.out.trans (hb7.mono HB6.out.size))
    clear hb7 hr7 HV6 HB6
    go_wp2_with fail
    refine (ints_any _ _ _ _ _ HV8.out HV7.out).mono ?_
    rintro e w8 ⟨rfl, hb8⟩
    go_wp2_with fail
    go_ret
    obtain ⟨q, rfl⟩ := hb8
    exact ⟨by first | (simp; done) | (simp; omega), HB7.out.trans ((show Below w7.heap.size w7 (w7.drewN q) from ⟨rfl, rfl, rfl, Nat.le_refl _, fun _ _ => rfl⟩).mono HB7.out.size)⟩
theorem big (o : Option Addr) (len cap : Nat) (wk wi : Int) (w : World) (hl : 120 < len) :
    Calls Try.prog 3 #[.slice o len cap, .int .i64 wk, .int .i64 wi] w fun e w' => e = .returned (.bool true) ∧ Below w.heap.size w w' := by
  have hd1 : (120 : Int) < (len : Int) := by omega
  go_enter Try.func3, Try.ntmps3
  go_wp2_with fail
  refine (works36 _).mono ?_
  rintro e w1 ⟨rfl, hb1⟩
  go_wp2_with fail
  go_ret
  exact ⟨rfl, hb1⟩
theorem walk (a0 : Option Addr) (len0 cap0 : Nat) (z0 : Nat → Nat → Int) (a1 : Int) (a2 : Int) (w : World) (w0 : IsGrid [.i64, .i64] w a0 len0 cap0 z0) (w1 : (Lit.int .i64 a1).wf = true) (w2 : (Lit.int .i64 a2).wf = true) :
    Calls Try.prog 3 #[.slice a0 len0 cap0, .int .i64 a1, .int .i64 a2] w fun e w' => e = .returned (.bool true) ∧ Below w.heap.size w w' := by
  by_cases hl : 120 < len0
  · exact big a0 len0 cap0 a1 a2 w hl
  · obtain ⟨n, hn⟩ : ∃ n : Nat, (if 64 < (if a1 < 1 then (1 : Int) else a1) then (64 : Int) else (if a1 < 1 then (1 : Int) else a1)) = (n : Int) := ⟨(if 64 < (if a1 < 1 then (1 : Int) else a1) then (64 : Int) else (if a1 < 1 then (1 : Int) else a1)).toNat, by split <;> split <;> omega⟩
    have hx : PV w a0 len0 cap0 (pk2 z0 len0) ∧ (a0 = none → cap0 = 0) := by
      have hlen : (pk2 z0 len0).length = len0 := by simp [pk2]
      have hat : ∀ (i : Nat) (p : PK), (pk2 z0 len0)[i]? = some p → p = (z0 i 0, z0 i 1) ∧ i < len0 := fun i p h => by
        have hi := (List.getElem?_eq_some_iff.1 h).1
        rw [hlen] at hi
        simp [pk2, hi] at h
        exact ⟨by simpa using h.symm, hi⟩
      rcases w0 with ⟨rfl, rfl, rfl⟩ | ⟨x, rfl, hle, hm, hc⟩
      · exact ⟨⟨hlen, Nat.le_refl _, fun i p hp => by have := (hat i p hp).2; omega⟩, fun _ => rfl⟩
      · refine ⟨⟨hlen, hle, fun i p hp => ?_⟩, by simp⟩
        obtain ⟨rfl, hi⟩ := hat i p hp
        obtain ⟨b, off, spot⟩ := x
        have h0 := (hc i (by omega) 0 .i64 rfl).1
        have h1 := (hc i (by omega) 1 .i64 rfl).1
        have hz := (hc 0 (by omega) 0 .i64 rfl).1
        have hspot : spot = none := by simpa [Addr.add] using World.cell?_spot hz
        subst hspot
        rw [Go.WideShapes.add_plain] at h0 h1
        exact ⟨b, off, rfl, World.block_lt_of_cell? w _ h0, h0, h1⟩
    exact core a0 len0 cap0 n (pk2 z0 len0) a1 a2 _ _ _ _ w (by omega) hx.1 hx.2 rfl hn (Lib.hid rfl) (Lib.hid rfl) (Lib.hid rfl)
end Go.Proofs.Ytfigabjcmpakeac.schedFair
