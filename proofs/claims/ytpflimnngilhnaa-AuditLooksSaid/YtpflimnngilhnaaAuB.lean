/- A worker's frame (layer 37). -/
import Derived.Test.YtpflimnngilhnaaAuA
namespace Go.Proofs.Ytpflimnngilhnaa.au
open Go.ChangeShapes Go.WideShapes Go.ChangeAt Go.RowKit
open Go.Proofs.Ytpflimnngilhnaa.rh
set_option linter.unusedVariables false
set_option linter.unusedSimpArgs false
theorem empty_s (s : Int) (h0 : 0 ≤ s) (h1 : s ≤ 24) (b : Bool) (hb : decide (s ∈ n8) = b) (w : World) : Calls Try.prog 41 #[.int .i64 s] w fun e w' => e = .returned (.bool b) ∧ w = w' := by
  obtain ⟨k, rfl⟩ : ∃ k : Nat, s = (k : Int) := ⟨s.toNat, by omega⟩
  exact empty_of k (by omega) b hb w
theorem loops_s (s : Int) (h0 : 0 ≤ s) (h1 : s ≤ 24) (b : Bool) (hb : decide (s ∈ l6) = b) (w : World) : Calls Try.prog 42 #[.int .i64 s] w fun e w' => e = .returned (.bool b) ∧ w = w' := by
  obtain ⟨k, rfl⟩ : ∃ k : Nat, s = (k : Int) := ⟨s.toNat, by omega⟩
  exact loops_of k (by omega) b hb w
def WkPost (w : World) (H TK n : Nat) (ak : Option Addr) (ck : Nat) (ks seen : List Int) (id d : Int) (e : Ending) (w' : World) : Prop :=
  e = .returned (.int .i64 d) ∧ Below TK w w' ∧ w.heap.size ≤ w'.heap.size ∧ (d = 0 → HS w' H TK n ak ck ks (sn2 seen id))
theorem tk_vals (ks seen : List Int) (id : Int) : tkE ks seen id = 7 ∨ tkE ks seen id = 10 ∨ tkE ks seen id = 0 := by
  unfold tkE
  split
  · exact .inl rfl
  · split
    · exact .inr (.inl rfl)
    · exact .inr (.inr rfl)
set_option maxRecDepth 20000 in
set_option maxHeartbeats 4000000 in
theorem worker_of (H TK n : Nat) (ak : Option Addr) (ck : Nat) (ks seen : List Int) (s id x y d : Int) (w : World) (h : HS w H TK n ak ck ks seen) (hd : vwE ks seen s id = d) :
    Calls Try.prog 29 #[.pointer (some ⟨H, 0, none⟩), .agg #[.int .i64 s, .int .i64 id, .int .i64 x, .int .i64 y]] w (WkPost w H TK n ak ck ks seen id d) := by
  have hHl : H < w.heap.size := (Array.getElem?_eq_some_iff.1 h.1).1
  have hTK := h.2.2.2.1
  obtain ⟨_, hnm1, hnm2⟩ := h.2.1.len
  unfold maxLen at hnm2
  obtain ⟨V, hV⟩ : ∃ V, w.heap.size = V := ⟨_, rfl⟩
  obtain ⟨W1, hW1⟩ : ∃ W1, w.alloc (.cells #[.int .i64 s, .int .i64 id, .int .i64 x, .int .i64 y] 30) = W1 := ⟨_, rfl⟩
  have hb1 : Below w.heap.size w W1 := by rw [← hW1]; exact (Below.refl _ _).alloc (Nat.le_refl _) _
  have hv1 : W1.heap[V]? = some (.cells #[.int .i64 s, .int .i64 id, .int .i64 x, .int .i64 y] 30 (0, 0)) := by rw [← hW1, ← hV]; exact heap_box1 w _ _
  have hVl : V < W1.heap.size := (Array.getElem?_eq_some_iff.1 hv1).1
  have d0 : W1.cell? ⟨V, 0, none⟩ = some (.int .i64 s) := by simp [World.cell?, hv1]
  have d1 : W1.cell? ⟨V, 1, none⟩ = some (.int .i64 id) := by simp [World.cell?, hv1]
  have h1 := h.below hb1
  have HB1 : Hid (Below TK w W1) := Lib.hid (hb1.mono (by omega))
  have HV := Lib.hid hv1
  have H1 := Lib.hid h1
  have HSZ := Lib.hid hb1.size
  have HW1 := Lib.hid hW1
  have HVV := Lib.hid hV
  have HD := Lib.hid hd
  have hVT : V ≠ TK := by omega
  have HVL := Lib.hid hVl
  have CT := fun c hc => (fun (W : World) (hb : Below W1.heap.size W1 W) => take_of H TK n ak ck ks seen id c W (h1.below hb) hc)
  clear h hd hb1 hv1 h1 hV hW1 hVl
  by_cases hs0 : s < 0
  · have hdv : d = 3 := by rw [← HD.out]; unfold vwE; rw [if_pos (.inl hs0)]
    subst hdv
    clear CT
    go_enter Try.func29, Try.ntmps29
    go_wp2_with fail
    go_ret
    exact ⟨rfl, by first | exact HB1.out | (rw [HW1.out]; exact HB1.out), by first | exact HSZ.out | (rw [HW1.out]; exact HSZ.out), fun e => by omega⟩
  by_cases hs1 : 24 < s
  · have hdv : d = 3 := by rw [← HD.out]; unfold vwE; rw [if_pos (.inr hs1)]
    subst hdv
    clear CT
    go_enter Try.func29, Try.ntmps29
    go_wp2_with fail
    go_ret
    exact ⟨rfl, by first | exact HB1.out | (rw [HW1.out]; exact HB1.out), by first | exact HSZ.out | (rw [HW1.out]; exact HSZ.out), fun e => by omega⟩
  have hnr : ¬ (s < 0 ∨ 24 < s) := by omega
  have hd2 := HD.out
  unfold vwE at hd2
  rw [if_neg hnr] at hd2
  have CE := fun b hb => (fun (W : World) => empty_s s (by omega) (by omega) b hb W)
  have CL := fun b hb => (fun (W : World) => loops_s s (by omega) (by omega) b hb W)
  by_cases hs3 : s = 3
  · subst hs3
    rw [if_neg (by simp [n8])] at hd2
    by_cases hid : id = 0
    · subst hid
      rw [if_pos rfl] at hd2
      subst hd2
      clear CT CE CL hnr
      go_enter Try.func29, Try.ntmps29
      go_wp2_with fail
      rw [HW1.out, HVV.out]
      go_region
      go_wp2_with fail
      go_ret
      exact ⟨rfl, HB1.out.drew, HSZ.out, fun _ => by unfold sn2; rw [if_pos rfl]; exact H1.out.below (by go_grown)⟩
    · rw [if_neg hid] at hd2
      have hidb : (id == 0) = false := by simpa using hid
      have hidn : (id != 0) = true := by simpa using hid
      obtain ⟨c, hc⟩ : ∃ c, tkE ks seen id = c := ⟨_, rfl⟩
      have hcv := tk_vals ks seen id
      rw [hc] at hd2 hcv
      replace CT := Lib.hid (CT c hc)
      clear CE CL hnr
      by_cases hc0 : c = 0
      · subst hc0
        obtain ⟨j, rfl, hj, hx0, hns⟩ := tk_yes hc
        have hjn : j < n := by rw [H1.out.2.1.len.1]; exact hj
        have hjI : (j : Int) < (n : Int) := by omega
        obtain ⟨xv, hxv⟩ : ∃ xv, ks.getD j 0 = xv := ⟨_, rfl⟩
        have hxz : ¬ (xv == 0) = true := by rw [← hxv]; simpa using hx0
        obtain ⟨il, hil⟩ : ∃ il, (xv == 3) = il := ⟨_, rfl⟩
        have hd0 : d = 0 := by rw [← hd2]; simp
        have HXV := Lib.hid hxv
        clear hd2 hc hcv hns hj hx0 hxv
        subst hd0
        go_enter Try.func29, Try.ntmps29
        go_wp2_with fail
        rw [HW1.out, HVV.out]
        go_region
        go_wp2_with (first | (go_at_call 30; (refine (CT.out _ (by go_grown)).mono ?_); (rintro e w5 ⟨rfl, h5, h6⟩)))
        have hh5 := h5 (by first | exact trivial | exact rfl)
        have hs5 := hh5.1
        have hk5 := hh5.2
        have hV5 : w5.heap[V]? = some _ := (hk5.2.2 V hVT HVL.out).trans HV.out
        have e0 : w5.cell? ⟨V, 0, none⟩ = some (.int .i64 3) := by simp [World.cell?, hV5]
        have e1 : w5.cell? ⟨V, 1, none⟩ = some (.int .i64 ((j : Int) + 1)) := by simp [World.cell?, hV5]
        have c0 := hs5.cells.1
        obtain ⟨b, o, rfl, hbl, hck⟩ := hs5.2.1.at j hjn
        rw [HXV.out] at hck
        have HS5 := Lib.hid hs5
        have HK5 := Lib.hid hk5
        clear hs5 hk5 hh5 h5 h6 hV5
        go_quiet (fail)
        go_wp2_with fail
        go_ret
        exact ⟨rfl, below_drewN (HB1.out.drew.trans HK5.out.1) _, Nat.le_trans HSZ.out HK5.out.2.1, fun _ => by unfold sn2; rw [if_neg hid]; exact HS5.out.below (below_drewN (Below.refl _ _) _)⟩
      · rw [if_pos hc0] at hd2
        subst hd2
        have hcb : (c == 0) = false := by simpa using hc0
        have hcn : (c != 0) = true := by simpa using hc0
        clear hc
        go_enter Try.func29, Try.ntmps29
        go_wp2_with fail
        rw [HW1.out, HVV.out]
        go_region
        go_wp2_with (first | (go_at_call 30; (refine (CT.out _ (by go_grown)).mono ?_); (rintro e w5 ⟨rfl, h5, h6⟩); (obtain rfl := h6 hc0)))
        go_ret
        exact ⟨rfl, HB1.out.drew, HSZ.out, fun e => absurd e hc0⟩
  · have hs3b : (s == 3) = false := by simpa using hs3
    obtain ⟨em, hem⟩ : ∃ b, decide (s ∈ n8) = b := ⟨_, rfl⟩
    replace CE := Lib.hid (CE em hem)
    by_cases hid : id = 0
    · subst hid
      cases em with
      | false =>
        rw [if_pos (.inr ⟨rfl, of_decide_eq_false hem, hs3⟩)] at hd2
        subst hd2
        clear CT CL hnr hem
        go_enter Try.func29, Try.ntmps29
        go_wp2_with fail
        rw [HW1.out, HVV.out]
        go_region
        go_wp2_with (first | (go_at_call 41; (with_reducible refine (CE.out _).mono ?_); rintro e w9 ⟨rfl, rfl⟩))
        go_ret
        exact ⟨rfl, HB1.out.drew, HSZ.out, fun e => by omega⟩
      | true =>
        rw [if_neg (by have := of_decide_eq_true hem; simp [this]), if_pos rfl] at hd2
        subst hd2
        clear CT CL hnr hem
        go_enter Try.func29, Try.ntmps29
        go_wp2_with fail
        rw [HW1.out, HVV.out]
        go_region
        go_wp2_with (first | (go_at_call 41; (with_reducible refine (CE.out _).mono ?_); rintro e w9 ⟨rfl, rfl⟩))
        go_ret
        exact ⟨rfl, HB1.out.drew, HSZ.out, fun _ => by unfold sn2; rw [if_pos rfl]; exact H1.out.below (by go_grown)⟩
    · have hidb : (id == 0) = false := by simpa using hid
      have hidn : (id != 0) = true := by simpa using hid
      cases em with
      | true =>
        rw [if_pos (.inl ⟨hid, of_decide_eq_true hem⟩)] at hd2
        subst hd2
        clear CT CL hnr hem
        go_enter Try.func29, Try.ntmps29
        go_wp2_with fail
        rw [HW1.out, HVV.out]
        go_region
        go_wp2_with (first | (go_at_call 41; (with_reducible refine (CE.out _).mono ?_); rintro e w9 ⟨rfl, rfl⟩))
        go_ret
        exact ⟨rfl, HB1.out.drew, HSZ.out, fun e => by omega⟩
      | false =>
        rw [if_neg (by have := of_decide_eq_false hem; simp [this, hid]), if_neg hid] at hd2
        obtain ⟨c, hc⟩ : ∃ c, tkE ks seen id = c := ⟨_, rfl⟩
        rw [hc] at hd2
        replace CT := Lib.hid (CT c hc)
        clear hnr hem
        by_cases hc0 : c = 0
        · subst hc0
          rw [if_neg (by simp)] at hd2
          obtain ⟨j, rfl, hj, hx0, hns⟩ := tk_yes hc
          have hjn : j < n := by rw [H1.out.2.1.len.1]; exact hj
          have hjI : (j : Int) < (n : Int) := by omega
          have e : ((j : Int) + 1 - 1).toNat = j := by omega
          rw [e] at hd2
          obtain ⟨xv, hxv⟩ : ∃ xv, ks.getD j 0 = xv := ⟨_, rfl⟩
          rw [hxv] at hd2
          obtain ⟨lo, hlo⟩ : ∃ lo, decide (s ∈ l6) = lo := ⟨_, rfl⟩
          rw [hlo] at hd2
          replace CL := Lib.hid (CL lo hlo)
          obtain ⟨il, hil⟩ : ∃ il, (xv == 3) = il := ⟨_, rfl⟩
          have hil2 : decide (xv = 3) = il := by rw [← hil]; rfl
          rw [hil2] at hd2
          have HD2 : Hid (d = if il = lo then 0 else 5) := Lib.hid (by
            rw [← hd2]
            by_cases e : il = lo
            · rw [if_pos e, if_neg (by simp [e])]
            · rw [if_neg e, if_pos ⟨hs3, e⟩])
          have HXV := Lib.hid hxv
          clear hd2 hc hns hj hx0 hxv e hlo hil2
          cases il <;> cases lo
          all_goals
            have hdv := HD2.out
            simp at hdv
            subst hdv
            go_enter Try.func29, Try.ntmps29
            go_wp2_with fail
            rw [HW1.out, HVV.out]
            go_region
            go_wp2_with (first | (go_at_call 41; (with_reducible refine (CE.out _).mono ?_); rintro e w9 ⟨rfl, rfl⟩) | (go_at_call 30; (refine (CT.out _ (by go_grown)).mono ?_); (rintro e w5 ⟨rfl, h5, h6⟩)))
            have hh5 := h5 (by first | exact trivial | exact rfl)
            have hs5 := hh5.1
            have hk5 := hh5.2
            have hV5 : w5.heap[V]? = some _ := (hk5.2.2 V hVT HVL.out).trans HV.out
            have e0 : w5.cell? ⟨V, 0, none⟩ = some (.int .i64 s) := by simp [World.cell?, hV5]
            have e1 : w5.cell? ⟨V, 1, none⟩ = some (.int .i64 ((j : Int) + 1)) := by simp [World.cell?, hV5]
            have c0 := hs5.cells.1
            obtain ⟨b, o, rfl, hbl, hck⟩ := hs5.2.1.at j hjn
            rw [HXV.out] at hck
            have HS5 := Lib.hid hs5
            have HK5 := Lib.hid hk5
            clear hs5 hk5 hh5 h5 h6 hV5
            go_quiet (fail)
            go_wp2_with (first | (go_at_call 42; (with_reducible refine (CL.out _).mono ?_); rintro e w9 ⟨rfl, rfl⟩))
            go_ret
            exact ⟨rfl, below_drewN (HB1.out.drew.trans HK5.out.1) _, Nat.le_trans HSZ.out HK5.out.2.1, fun e => by first | (exact absurd e (by decide)) | (unfold sn2; rw [if_neg hid]; exact HS5.out.below (below_drewN (Below.refl _ _) _))⟩
        · rw [if_pos hc0] at hd2
          subst hd2
          have hcb : (c == 0) = false := by simpa using hc0
          have hcn : (c != 0) = true := by simpa using hc0
          clear hc CL
          go_enter Try.func29, Try.ntmps29
          go_wp2_with fail
          rw [HW1.out, HVV.out]
          go_region
          go_wp2_with (first | (go_at_call 41; (with_reducible refine (CE.out _).mono ?_); rintro e w9 ⟨rfl, rfl⟩) | (go_at_call 30; (refine (CT.out _ (by go_grown)).mono ?_); (rintro e w5 ⟨rfl, h5, h6⟩); (obtain rfl := h6 hc0)))
          go_ret
          exact ⟨rfl, HB1.out.drew, HSZ.out, fun e => absurd e hc0⟩
end Go.Proofs.Ytpflimnngilhnaa.au
