/- The instruction of a line, or what is wrong with it: the program's Parse (layer 6). -/
import Derived.Test.YtgkfnplgldigbaaDoorAsA
import Derived.Test.YtgkfnplgldigbaaDoorWdN
import Derived.Test.YtgkfnplgldigbaaDoorWdE
import Derived.Test.YtgkfnplgldigbaaDoorInE
import Derived.Deep.RegionHeld3
import Derived.Deep.QuietTactic
import Derived.Handy
namespace Go.Proofs.YtgkfnplgldigbaaDoor.asm
open Go.ChangeShapes Go.WideShapes Go.ChangeAt Go.RowKit
open Go.Proofs.YtgkfnplgldigbaaDoor.st Go.Proofs.YtgkfnplgldigbaaDoor.wd
open Go.Proofs.YtgkfnplgldigbaaDoor.ins (three three_cell res_ins st4 st4_blk st4_below)
set_option linter.unusedVariables false
set_option linter.unusedSimpArgs false
def IV (x : I4) : Value := .agg #[.int .i64 x.1, .int .i64 x.2.1, .int .i64 x.2.2.1, .int .i64 x.2.2.2]
def PV (r : I4 × Int) : Value := .tuple #[IV r.1, .int .i64 r.2]
/-- the first k numbers of pieces, as they stand in the array. -/
def fl (os : List (List UInt8)) (k i : Nat) : Int := if i < k then (numV (os.getD i [])).1 else 0
def flc (os : List (List UInt8)) (k : Nat) : Array Value := #[.int .i64 (fl os k 0), .int .i64 (fl os k 1), .int .i64 (fl os k 2)]
theorem flc_zero (os : List (List UInt8)) : flc os 0 = #[.int .i64 0, .int .i64 0, .int .i64 0] := rfl
theorem flc_set (os : List (List UInt8)) (k : Nat) (hk : k < 3) (n : Int) (hn : (numV (os.getD k [])).1 = n) : (flc os k).set! k (.int .i64 n) = flc os (k + 1) := by
  subst hn
  match k, hk with
  | 0, _ => rfl
  | 1, _ => rfl
  | 2, _ => rfl
theorem nums_bad : ∀ (os : List (List UInt8)) (i : Nat), i < os.length → (numV (os.getD i [])).2 = false → numsP os = none := by
  intro os
  induction os with
  | nil => intro i h; simp at h
  | cons p r ih =>
    intro i h hb
    unfold numsP
    cases i with
    | zero =>
      rw [List.getD_cons_zero] at hb
      rw [hb, if_neg (by decide)]
    | succ i =>
      rw [List.getD_cons_succ] at hb
      rw [ih i (by simpa using h) hb]
      split <;> rfl
theorem nums_good : ∀ (os : List (List UInt8)), (∀ i, i < os.length → (numV (os.getD i [])).2 = true) → numsP os = some (os.map fun p => (numV p).1) := by
  intro os
  induction os with
  | nil => intro _; rfl
  | cons p r ih =>
    intro h
    have h0 := h 0 (by simp)
    rw [List.getD_cons_zero] at h0
    unfold numsP
    rw [if_pos h0, ih fun i hi => by
      have := h (i + 1) (by simpa using hi)
      rwa [List.getD_cons_succ] at this]
    rfl
theorem fl_map (os : List (List UInt8)) (i : Nat) : (os.map fun p => (numV p).1).getD i 0 = fl os os.length i := by
  unfold fl
  by_cases h : i < os.length
  · rw [if_pos h, List.getD_eq_getElem?_getD, List.getElem?_map, List.getElem?_eq_getElem h, List.getD_eq_getElem?_getD, List.getElem?_eq_getElem h]
    rfl
  · rw [if_neg h, List.getD_eq_getElem?_getD, List.getElem?_eq_none (by simpa using h)]
    rfl
theorem SV.cell {w : World} {a : Option Addr} {n c : Nat} {L : List (List UInt8)} (h : SV w (.slice a n c) L) (i : Nat) (hi : i < n) : ∃ b o, a = some ⟨b, o, none⟩ ∧ b < w.heap.size ∧ w.cell? ⟨b, o + i, none⟩ = some (.string ⟨(L.getD i []).toArray⟩) := SV.at h i hi
theorem SV.rest {w : World} {b o n c : Nat} {s : List UInt8} {os : List (List UInt8)} (h : SV w (.slice (some ⟨b, o, none⟩) (n + 1) c) (s :: os)) : SV w (.slice (some ⟨b, o + 1, none⟩) n (c - 1)) os := by
  obtain ⟨a', cap', hv, h1, h2, h3, h4⟩ := h
  rw [Value.slice.injEq] at hv
  obtain ⟨rfl, hl, rfl⟩ := hv
  have hl' : n = os.length := by simpa using hl
  subst hl'
  refine ⟨_, c - 1, rfl, by simp at h1; omega, by omega, (fun e => by cases e), fun i x hx => ?_⟩
  obtain ⟨b', o', e, hb, hc⟩ := h4 (i + 1) x (by simpa using hx)
  simp only [Option.some.injEq, Addr.mk.injEq] at e
  obtain ⟨rfl, rfl, _⟩ := e
  refine ⟨b, o + 1, rfl, hb, fun j u hu => ?_⟩
  have := hc j u hu
  rw [show o + ((i + 1) * 1 + j) = o + 1 + (i * 1 + j) by omega] at this
  exact this
/-- the heap while the numbers are read. -/
def parE (op : Nat) (os : List (List UInt8)) : I4 × Int :=
  if os.length < (ins.frm op).length then (zero4, 1)
  else if (ins.frm op).length < os.length then (zero4, 2)
  else match numsP os with
    | none => (zero4, 4)
    | some ns => if chk (mk4 op ns) = 0 then (mk4 op ns, 0) else (zero4, chk (mk4 op ns))
theorem flc_at (os : List (List UInt8)) (k i : Nat) (hi : i < 3) : (flc os k)[i]? = some (.int .i64 (fl os k i)) := by
  match i, hi with
  | 0, _ => rfl
  | 1, _ => rfl
  | 2, _ => rfl
theorem set_blk (w : World) (b i : Nat) (v : Value) {cs : Array Value} {e : TypeId} (h : w.heap[b]? = some (.cells cs e (0, 0))) : (w.setCell ⟨b, i, none⟩ v).heap[b]? = some (.cells (cs.set! i v) e (0, 0)) := ins.set_blk w b i v h
theorem fld_len (l : List UInt8) : (fldV l).length ≤ l.length + 1 := Nat.le_trans (List.length_filter_le _ _) (spl_len 32 l)
theorem fld_part (l : List UInt8) : ∀ x ∈ fldV l, x.length ≤ l.length := fun x hx => spl_part 32 l x (List.mem_filter.1 hx).1
set_option maxRecDepth 20000 in
set_option maxHeartbeats 1600000 in
theorem parse_v (l : List UInt8) (w : World) (hl : l.length ≤ 100000) (hN : ins.NM w) (hM : wd.NM w) : Calls Tryd.prog 8 #[.string ⟨l.toArray⟩] w fun e w' => e = .returned (PV (parV l)) ∧ Below w.heap.size w w' := by
  have hs := str_size l
  by_cases h400 : 400 < l.length
  · rw [show parV l = (zero4, 9) from if_pos h400]
    have h4i : (400 : Int) < (l.length : Int) := by omega
    clear hN hM hl
    go_enter Tryd.func8, Tryd.ntmps8
    go_wp2_with fail
    exact bodyPost_ret (res_ins Tryd.results8 rfl rfl (heap_new w _ _)) rfl ⟨rfl, by go_grown⟩
  · rw [show parV l = parP (fldV l) from if_neg h400]
    have h4i : ¬ (400 : Int) < (l.length : Int) := by omega
    have CF := Lib.hid (fun w => wfields_v l w hl)
    have hfl := fld_len l
    have hfp := fld_part l
    obtain ⟨P, hP⟩ : ∃ P, fldV l = P := ⟨_, rfl⟩
    rw [hP] at CF hfl hfp ⊢
    obtain ⟨V, hV⟩ : ∃ V, PV (parP P) = V := ⟨_, rfl⟩
    rw [hV]
    have HN := Lib.hid hN
    have HM := Lib.hid hM
    cases P with
    | nil =>
      have hV' : PV (zero4, 7) = V := hV
      subst hV'
      clear hV
      obtain ⟨W1, hW1⟩ : ∃ W1, w.alloc (.cells #[.int .i64 0, .int .i64 0, .int .i64 0, .int .i64 0] 23) = W1 := ⟨_, rfl⟩
      have k1 : W1.heap[w.heap.size]? = some (.cells #[.int .i64 0, .int .i64 0, .int .i64 0, .int .i64 0] 23 (0, 0)) := by rw [← hW1]; exact heap_new w _ _
      have b1 : Below w.heap.size w W1 := by rw [← hW1]; exact (Below.refl _ _).alloc (Nat.le_refl _) _
      have HW1 := Lib.hid hW1
      have K1 := Lib.hid k1
      have B1 := Lib.hid b1
      clear hN hM hW1 k1 b1 hl h400 hP hfl hfp

      go_enter Tryd.func8, Tryd.ntmps8
      go_wp2_with fail
      rw [HW1.out]
      refine (CF.out _).mono ?_
      rintro e w2 ⟨v, rfl, hsv, hb2⟩
      have k2 := kb K1.out hb2
      have hB2 := tr3 B1.out hb2
      have hlt2 : w.heap.size < w2.heap.size := (Array.getElem?_eq_some_iff.1 k2).1
      have K2 := Lib.hid k2
      have B2 := Lib.hid hB2
      obtain ⟨a, cp, rfl, hcp1, hcp2⟩ := RV.form hsv
      have hz : ([] : List (List UInt8)).length = 0 := rfl
      rw [hz]
      clear hsv hb2 CF HW1 K1 B1 hB2
      have c0 : w2.cell? ⟨w.heap.size, 0, none⟩ = some (.int .i64 0) := cel k2 0
      have c1 : w2.cell? ⟨w.heap.size, 1, none⟩ = some (.int .i64 0) := cel k2 1
      have c2 : w2.cell? ⟨w.heap.size, 2, none⟩ = some (.int .i64 0) := cel k2 2
      have c3 : w2.cell? ⟨w.heap.size, 3, none⟩ = some (.int .i64 0) := cel k2 3
      have cf0 : w2.frozen? ⟨w.heap.size, 0, none⟩ = false := frz k2 0
      have cf1 : w2.frozen? ⟨w.heap.size, 1, none⟩ = false := frz k2 1
      have cf2 : w2.frozen? ⟨w.heap.size, 2, none⟩ = false := frz k2 2
      have cf3 : w2.frozen? ⟨w.heap.size, 3, none⟩ = false := frz k2 3
      go_wp2_with fail
      exact bodyPost_ret (res_ins Tryd.results8 rfl rfl (st4_blk (a' := .int .i64 0) (b' := .int .i64 0) (c' := .int .i64 0) (d' := .int .i64 0) K2.out)) rfl ⟨rfl, st4_below B2.out (Nat.le_refl _) _ _ _ _⟩
    | cons s os =>
      obtain ⟨n, hn⟩ : ∃ n, os.length = n := ⟨_, rfl⟩
      obtain ⟨n1, hn1⟩ : ∃ n1, n + 1 = n1 := ⟨_, rfl⟩
      have hfl1 : n1 ≤ 100001 := by rw [List.length_cons, hn] at hfl; omega
      have HPT := Lib.hid (fun i (hi : i < os.length) => show (os.getD i []).length ≤ 1000000 by
        have := hfp (os.getD i []) (List.mem_cons_of_mem _ (by rw [List.getD_eq_getElem?_getD, List.getElem?_eq_getElem hi]; exact List.getElem_mem hi))
        omega)
      have hN1 := Lib.hid hn1
      cases hop0 : opOf s with
      | none =>
        have hV' : PV (zero4, 70) = V := by rw [← hV, parP, hop0]
        subst hV'
        have CO := Lib.hid (fun w hN => ins.of_name s 0 false w hN (Lib.hid (op_none hop0)) (fun h => absurd h (by decide)) (fun _ => rfl))
        obtain ⟨W1, hW1⟩ : ∃ W1, w.alloc (.cells #[.int .i64 0, .int .i64 0, .int .i64 0, .int .i64 0] 23) = W1 := ⟨_, rfl⟩
        have k1 : W1.heap[w.heap.size]? = some (.cells #[.int .i64 0, .int .i64 0, .int .i64 0, .int .i64 0] 23 (0, 0)) := by rw [← hW1]; exact heap_new w _ _
        have b1 : Below w.heap.size w W1 := by rw [← hW1]; exact (Below.refl _ _).alloc (Nat.le_refl _) _
        have HW1 := Lib.hid hW1
        have K1 := Lib.hid k1
        have B1 := Lib.hid b1
        clear hN hM hW1 k1 b1 hl h400 hP hfl hfp
        clear hV
        go_enter Tryd.func8, Tryd.ntmps8
        go_wp2_with fail
        rw [HW1.out]
        refine (CF.out _).mono ?_
        rintro e w2 ⟨v, rfl, hsv, hb2⟩
        have k2 := kb K1.out hb2
        have hB2 := tr3 B1.out hb2
        have hlt2 : w.heap.size < w2.heap.size := (Array.getElem?_eq_some_iff.1 k2).1
        have K2 := Lib.hid k2
        have B2 := Lib.hid hB2
        obtain ⟨a, cp, rfl, hcp1, hcp2⟩ := RV.form hsv
        have hn1 : (s :: os).length = n1 := by rw [List.length_cons, hn]; exact hN1.out
        rw [hn1] at hsv hcp1 ⊢
        unfold maxLen at hcp2
        obtain ⟨b, o, rfl, hblt, hc0⟩ := SV.cell hsv 0 (by omega)
        rw [Nat.add_zero, List.getD_cons_zero] at hc0
        have HSV := Lib.hid hsv
        have hn10 : ((n1 : Int) == 0) = false := by rw [beq_eq_false_iff_ne]; omega
        have hn1i : ¬ (n1 : Int) = 0 := by omega
        have hn1p : (0 : Int) < (n1 : Int) := by omega
        clear hsv k2 hB2 hb2 CF HW1 K1 B1
        go_wp2_with fail
        refine (CO.out _ (HN.out.below B2.out)).mono ?_
        rintro e w3 ⟨rfl, rfl⟩
        clear CO
        have c0 : w2.cell? ⟨w.heap.size, 0, none⟩ = some (.int .i64 0) := cel K2.out 0
        have c1 : w2.cell? ⟨w.heap.size, 1, none⟩ = some (.int .i64 0) := cel K2.out 1
        have c2 : w2.cell? ⟨w.heap.size, 2, none⟩ = some (.int .i64 0) := cel K2.out 2
        have c3 : w2.cell? ⟨w.heap.size, 3, none⟩ = some (.int .i64 0) := cel K2.out 3
        have cf0 : w2.frozen? ⟨w.heap.size, 0, none⟩ = false := frz K2.out 0
        have cf1 : w2.frozen? ⟨w.heap.size, 1, none⟩ = false := frz K2.out 1
        have cf2 : w2.frozen? ⟨w.heap.size, 2, none⟩ = false := frz K2.out 2
        have cf3 : w2.frozen? ⟨w.heap.size, 3, none⟩ = false := frz K2.out 3
        go_wp2_with fail
        exact bodyPost_ret (res_ins Tryd.results8 rfl rfl (st4_blk (a' := .int .i64 0) (b' := .int .i64 0) (c' := .int .i64 0) (d' := .int .i64 0) K2.out)) rfl ⟨rfl, st4_below B2.out (Nat.le_refl _) _ _ _ _⟩
      | some op =>
        obtain ⟨hop26, _⟩ := op_some hop0
        have CO := Lib.hid (fun w hN => ins.of_name s op true w hN (Lib.hid (op_all hop0)) (fun _ => hop26) (fun h => absurd h (by decide)))
        have hV1 : PV (parE op os) = V := by rw [← hV, parP, hop0]; rfl
        clear hV hop0
        have hfi : ins.frmI (op : Int) = ins.frm op := by unfold ins.frmI; rw [if_pos (by omega)]; rfl
        have hfl3 := (ins.frmI_ok (op : Int)).1
        have CFo := ins.pf_of (op : Int)
        rw [hfi] at hfl3 CFo
        have HCk := Lib.hid (fun A B C c w h => ins.pchk_of (op : Int) A B C c w h)
        obtain ⟨f, hf⟩ : ∃ f, ins.frm op = f := ⟨_, rfl⟩
        unfold parE at hV1
        rw [hf] at CFo hfl3 hV1
        have hfs := str_size f
        obtain ⟨m, hm⟩ : ∃ m, f.length = m := ⟨_, rfl⟩
        rw [hm] at hfs hfl3 hV1
        rw [hn] at hV1
        have CFm := Lib.hid CFo
        clear CFo
        by_cases h1 : n < m
        · rw [if_pos h1] at hV1
          subst hV1
          have h1i : (n : Int) < (m : Int) := by omega
          obtain ⟨W1, hW1⟩ : ∃ W1, w.alloc (.cells #[.int .i64 0, .int .i64 0, .int .i64 0, .int .i64 0] 23) = W1 := ⟨_, rfl⟩
          have k1 : W1.heap[w.heap.size]? = some (.cells #[.int .i64 0, .int .i64 0, .int .i64 0, .int .i64 0] 23 (0, 0)) := by rw [← hW1]; exact heap_new w _ _
          have b1 : Below w.heap.size w W1 := by rw [← hW1]; exact (Below.refl _ _).alloc (Nat.le_refl _) _
          have HW1 := Lib.hid hW1
          have K1 := Lib.hid k1
          have B1 := Lib.hid b1
          clear hN hM hW1 k1 b1 hl h400 hP hfl hfp
          clear hf hfi
          go_enter Tryd.func8, Tryd.ntmps8
          go_wp2_with fail
          rw [HW1.out]
          refine (CF.out _).mono ?_
          rintro e w2 ⟨v, rfl, hsv, hb2⟩
          have k2 := kb K1.out hb2
          have hB2 := tr3 B1.out hb2
          have hlt2 : w.heap.size < w2.heap.size := (Array.getElem?_eq_some_iff.1 k2).1
          have K2 := Lib.hid k2
          have B2 := Lib.hid hB2
          obtain ⟨a, cp, rfl, hcp1, hcp2⟩ := RV.form hsv
          have hn1 : (s :: os).length = n1 := by rw [List.length_cons, hn]; exact hN1.out
          rw [hn1] at hsv hcp1 ⊢
          unfold maxLen at hcp2
          obtain ⟨b, o, rfl, hblt, hc0⟩ := SV.cell hsv 0 (by omega)
          rw [Nat.add_zero, List.getD_cons_zero] at hc0
          have HSV := Lib.hid hsv
          have hn10 : ((n1 : Int) == 0) = false := by rw [beq_eq_false_iff_ne]; omega
          have hn1i : ¬ (n1 : Int) = 0 := by omega
          have hn1p : (0 : Int) < (n1 : Int) := by omega
          clear hsv k2 hB2 hb2 CF HW1 K1 B1
          go_wp2_with fail
          refine (CO.out _ (HN.out.below B2.out)).mono ?_
          rintro e w3 ⟨rfl, rfl⟩
          clear CO
          by_cases hcc : cp = 1
          · subst hcc
            obtain rfl : n1 = 1 := by omega
            go_wp2_with fail
            go_quiet ((go_at_call 23; exact quiet_eq (CFm.out _)))
            obtain ⟨ad, c0, he, hso⟩ : ∃ ad c0, Value.slice (some ⟨b, o, none⟩) 0 0 = Value.slice ad n c0 ∧ SV w2 (.slice ad n c0) os := by
              have hn0 : n = 0 := by have := hN1.out; omega
              refine ⟨_, 0, by rw [hn0], ?_⟩
              have hos : os = [] := List.eq_nil_of_length_eq_zero (by rw [hn]; exact hn0)
              rw [hos, hn0]
              exact ⟨_, 0, rfl, Nat.le_refl _, Nat.zero_le _, fun _ => rfl, fun i x hx => by simp at hx⟩
            rw [he]
            obtain ⟨W3, hW3⟩ : ∃ W3, w2.drewN nq = W3 := ⟨_, rfl⟩
            have hb3 : Below w2.heap.size w2 W3 := by rw [← hW3]; exact below_drewN (Below.refl _ _) nq
            have k3 := kb K2.out hb3
            have hlt3 : w.heap.size < W3.heap.size := (Array.getElem?_eq_some_iff.1 k3).1
            have K3 := Lib.hid k3
            have B3 := Lib.hid (tr3 B2.out hb3)
            rw [hW3]
            have c0 : W3.cell? ⟨w.heap.size, 0, none⟩ = some (.int .i64 0) := cel k3 0
            have c1 : W3.cell? ⟨w.heap.size, 1, none⟩ = some (.int .i64 0) := cel k3 1
            have c2 : W3.cell? ⟨w.heap.size, 2, none⟩ = some (.int .i64 0) := cel k3 2
            have c3 : W3.cell? ⟨w.heap.size, 3, none⟩ = some (.int .i64 0) := cel k3 3
            have cf0 : W3.frozen? ⟨w.heap.size, 0, none⟩ = false := frz k3 0
            have cf1 : W3.frozen? ⟨w.heap.size, 1, none⟩ = false := frz k3 1
            have cf2 : W3.frozen? ⟨w.heap.size, 2, none⟩ = false := frz k3 2
            have cf3 : W3.frozen? ⟨w.heap.size, 3, none⟩ = false := frz k3 3
            go_wp2_with fail
            exact bodyPost_ret (res_ins Tryd.results8 rfl rfl (st4_blk (a' := .int .i64 0) (b' := .int .i64 0) (c' := .int .i64 0) (d' := .int .i64 0) K3.out)) rfl ⟨rfl, st4_below B3.out (Nat.le_refl _) _ _ _ _⟩
          · have hcc1 : 1 < cp := by omega
            go_wp2_with fail
            go_quiet ((go_at_call 23; exact quiet_eq (CFm.out _)))
            obtain ⟨ad, c0, he, hso⟩ : ∃ ad c0, Value.slice (some ⟨b, o + 1, none⟩) (n1 - 1) (cp - 1) = Value.slice ad n c0 ∧ SV w2 (.slice ad n c0) os := by
              have hn0 : n1 - 1 = n := by have := hN1.out; omega
              refine ⟨_, cp - 1, by rw [hn0], ?_⟩
              have h5 := HSV.out
              rw [show n1 = n + 1 by omega] at h5
              exact SV.rest h5
            rw [he]
            obtain ⟨W3, hW3⟩ : ∃ W3, w2.drewN nq = W3 := ⟨_, rfl⟩
            have hb3 : Below w2.heap.size w2 W3 := by rw [← hW3]; exact below_drewN (Below.refl _ _) nq
            have k3 := kb K2.out hb3
            have hlt3 : w.heap.size < W3.heap.size := (Array.getElem?_eq_some_iff.1 k3).1
            have K3 := Lib.hid k3
            have B3 := Lib.hid (tr3 B2.out hb3)
            rw [hW3]
            have c0 : W3.cell? ⟨w.heap.size, 0, none⟩ = some (.int .i64 0) := cel k3 0
            have c1 : W3.cell? ⟨w.heap.size, 1, none⟩ = some (.int .i64 0) := cel k3 1
            have c2 : W3.cell? ⟨w.heap.size, 2, none⟩ = some (.int .i64 0) := cel k3 2
            have c3 : W3.cell? ⟨w.heap.size, 3, none⟩ = some (.int .i64 0) := cel k3 3
            have cf0 : W3.frozen? ⟨w.heap.size, 0, none⟩ = false := frz k3 0
            have cf1 : W3.frozen? ⟨w.heap.size, 1, none⟩ = false := frz k3 1
            have cf2 : W3.frozen? ⟨w.heap.size, 2, none⟩ = false := frz k3 2
            have cf3 : W3.frozen? ⟨w.heap.size, 3, none⟩ = false := frz k3 3
            go_wp2_with fail
            exact bodyPost_ret (res_ins Tryd.results8 rfl rfl (st4_blk (a' := .int .i64 0) (b' := .int .i64 0) (c' := .int .i64 0) (d' := .int .i64 0) K3.out)) rfl ⟨rfl, st4_below B3.out (Nat.le_refl _) _ _ _ _⟩
        · rw [if_neg h1] at hV1
          have h1i : ¬ (n : Int) < (m : Int) := by omega
          by_cases h2 : m < n
          · rw [if_pos h2] at hV1
            subst hV1
            have h2i : (m : Int) < (n : Int) := by omega
            obtain ⟨W1, hW1⟩ : ∃ W1, w.alloc (.cells #[.int .i64 0, .int .i64 0, .int .i64 0, .int .i64 0] 23) = W1 := ⟨_, rfl⟩
            have k1 : W1.heap[w.heap.size]? = some (.cells #[.int .i64 0, .int .i64 0, .int .i64 0, .int .i64 0] 23 (0, 0)) := by rw [← hW1]; exact heap_new w _ _
            have b1 : Below w.heap.size w W1 := by rw [← hW1]; exact (Below.refl _ _).alloc (Nat.le_refl _) _
            have HW1 := Lib.hid hW1
            have K1 := Lib.hid k1
            have B1 := Lib.hid b1
            clear hN hM hW1 k1 b1 hl h400 hP hfl hfp
            clear hf hfi
            go_enter Tryd.func8, Tryd.ntmps8
            go_wp2_with fail
            rw [HW1.out]
            refine (CF.out _).mono ?_
            rintro e w2 ⟨v, rfl, hsv, hb2⟩
            have k2 := kb K1.out hb2
            have hB2 := tr3 B1.out hb2
            have hlt2 : w.heap.size < w2.heap.size := (Array.getElem?_eq_some_iff.1 k2).1
            have K2 := Lib.hid k2
            have B2 := Lib.hid hB2
            obtain ⟨a, cp, rfl, hcp1, hcp2⟩ := RV.form hsv
            have hn1 : (s :: os).length = n1 := by rw [List.length_cons, hn]; exact hN1.out
            rw [hn1] at hsv hcp1 ⊢
            unfold maxLen at hcp2
            obtain ⟨b, o, rfl, hblt, hc0⟩ := SV.cell hsv 0 (by omega)
            rw [Nat.add_zero, List.getD_cons_zero] at hc0
            have HSV := Lib.hid hsv
            have hn10 : ((n1 : Int) == 0) = false := by rw [beq_eq_false_iff_ne]; omega
            have hn1i : ¬ (n1 : Int) = 0 := by omega
            have hn1p : (0 : Int) < (n1 : Int) := by omega
            clear hsv k2 hB2 hb2 CF HW1 K1 B1
            go_wp2_with fail
            refine (CO.out _ (HN.out.below B2.out)).mono ?_
            rintro e w3 ⟨rfl, rfl⟩
            clear CO
            by_cases hcc : cp = 1
            · exact absurd h2 (by have := hN1.out; omega)
            · have hcc1 : 1 < cp := by omega
              go_wp2_with fail
              go_quiet ((go_at_call 23; exact quiet_eq (CFm.out _)))
              obtain ⟨ad, c0, he, hso⟩ : ∃ ad c0, Value.slice (some ⟨b, o + 1, none⟩) (n1 - 1) (cp - 1) = Value.slice ad n c0 ∧ SV w2 (.slice ad n c0) os := by
                have hn0 : n1 - 1 = n := by have := hN1.out; omega
                refine ⟨_, cp - 1, by rw [hn0], ?_⟩
                have h5 := HSV.out
                rw [show n1 = n + 1 by omega] at h5
                exact SV.rest h5
              rw [he]
              obtain ⟨W3, hW3⟩ : ∃ W3, w2.drewN nq = W3 := ⟨_, rfl⟩
              have hb3 : Below w2.heap.size w2 W3 := by rw [← hW3]; exact below_drewN (Below.refl _ _) nq
              have k3 := kb K2.out hb3
              have hlt3 : w.heap.size < W3.heap.size := (Array.getElem?_eq_some_iff.1 k3).1
              have K3 := Lib.hid k3
              have B3 := Lib.hid (tr3 B2.out hb3)
              rw [hW3]
              have c0 : W3.cell? ⟨w.heap.size, 0, none⟩ = some (.int .i64 0) := cel k3 0
              have c1 : W3.cell? ⟨w.heap.size, 1, none⟩ = some (.int .i64 0) := cel k3 1
              have c2 : W3.cell? ⟨w.heap.size, 2, none⟩ = some (.int .i64 0) := cel k3 2
              have c3 : W3.cell? ⟨w.heap.size, 3, none⟩ = some (.int .i64 0) := cel k3 3
              have cf0 : W3.frozen? ⟨w.heap.size, 0, none⟩ = false := frz k3 0
              have cf1 : W3.frozen? ⟨w.heap.size, 1, none⟩ = false := frz k3 1
              have cf2 : W3.frozen? ⟨w.heap.size, 2, none⟩ = false := frz k3 2
              have cf3 : W3.frozen? ⟨w.heap.size, 3, none⟩ = false := frz k3 3
              go_wp2_with fail
              exact bodyPost_ret (res_ins Tryd.results8 rfl rfl (st4_blk (a' := .int .i64 0) (b' := .int .i64 0) (c' := .int .i64 0) (d' := .int .i64 0) K3.out)) rfl ⟨rfl, st4_below B3.out (Nat.le_refl _) _ _ _ _⟩
          · rw [if_neg h2] at hV1
            obtain rfl : m = n := by omega
            have h2i : ¬ (m : Int) < (m : Int) := by omega
            obtain ⟨W1, hW1⟩ : ∃ W1, w.alloc (.cells #[.int .i64 0, .int .i64 0, .int .i64 0, .int .i64 0] 23) = W1 := ⟨_, rfl⟩
            have k1 : W1.heap[w.heap.size]? = some (.cells #[.int .i64 0, .int .i64 0, .int .i64 0, .int .i64 0] 23 (0, 0)) := by rw [← hW1]; exact heap_new w _ _
            have b1 : Below w.heap.size w W1 := by rw [← hW1]; exact (Below.refl _ _).alloc (Nat.le_refl _) _
            have HW1 := Lib.hid hW1
            have K1 := Lib.hid k1
            have B1 := Lib.hid b1
            clear hN hM hW1 k1 b1 hl h400 hP hfl hfp
            clear hf hfi
            go_enter Tryd.func8, Tryd.ntmps8
            go_wp2_with fail
            rw [HW1.out]
            refine (CF.out _).mono ?_
            rintro e w2 ⟨v, rfl, hsv, hb2⟩
            have k2 := kb K1.out hb2
            have hB2 := tr3 B1.out hb2
            have hlt2 : w.heap.size < w2.heap.size := (Array.getElem?_eq_some_iff.1 k2).1
            have K2 := Lib.hid k2
            have B2 := Lib.hid hB2
            obtain ⟨a, cp, rfl, hcp1, hcp2⟩ := RV.form hsv
            have hn1 : (s :: os).length = n1 := by rw [List.length_cons, hn]; exact hN1.out
            rw [hn1] at hsv hcp1 ⊢
            unfold maxLen at hcp2
            obtain ⟨b, o, rfl, hblt, hc0⟩ := SV.cell hsv 0 (by omega)
            rw [Nat.add_zero, List.getD_cons_zero] at hc0
            have HSV := Lib.hid hsv
            have hn10 : ((n1 : Int) == 0) = false := by rw [beq_eq_false_iff_ne]; omega
            have hn1i : ¬ (n1 : Int) = 0 := by omega
            have hn1p : (0 : Int) < (n1 : Int) := by omega
            clear hsv k2 hB2 hb2 CF HW1 K1 B1
            go_wp2_with fail
            refine (CO.out _ (HN.out.below B2.out)).mono ?_
            rintro e w3 ⟨rfl, rfl⟩
            clear CO
            by_cases hcc : cp = 1
            · subst hcc
              obtain rfl : n1 = 1 := by omega
              go_wp2_with fail
              go_quiet ((go_at_call 23; exact quiet_eq (CFm.out _)))
              obtain ⟨ad, c0, he, hso⟩ : ∃ ad c0, Value.slice (some ⟨b, o, none⟩) 0 0 = Value.slice ad m c0 ∧ SV w2 (.slice ad m c0) os := by
                have hn0 : m = 0 := by have := hN1.out; omega
                refine ⟨_, 0, by rw [hn0], ?_⟩
                have hos : os = [] := List.eq_nil_of_length_eq_zero (by rw [hn]; exact hn0)
                rw [hos, hn0]
                exact ⟨_, 0, rfl, Nat.le_refl _, Nat.zero_le _, fun _ => rfl, fun i x hx => by simp at hx⟩
              rw [he]
              obtain ⟨W3, hW3⟩ : ∃ W3, w2.drewN nq = W3 := ⟨_, rfl⟩
              have hb3 : Below w2.heap.size w2 W3 := by rw [← hW3]; exact below_drewN (Below.refl _ _) nq
              have k3 := kb K2.out hb3
              have hlt3 : w.heap.size < W3.heap.size := (Array.getElem?_eq_some_iff.1 k3).1
              have K3 := Lib.hid k3
              have B3 := Lib.hid (tr3 B2.out hb3)
              rw [hW3]
              have HSO := Lib.hid (hso.below hb3)
              have HN3 := Lib.hid (HN.out.below B3.out)
              have HM3 := Lib.hid (HM.out.below B3.out)
              clear hso he hW3 hb3 k3 K2 B2 HSV CFm
              go_wp2_with fail
              obtain ⟨g, hg⟩ : ∃ g, W3.heap.size = g := ⟨_, rfl⟩
              obtain ⟨W4, hW4⟩ : ∃ W4, W3.alloc (.cells #[.int .i64 0, .int .i64 0, .int .i64 0] 48) = W4 := ⟨_, rfl⟩
              have k4 : W4.heap[g]? = some (.cells (flc os 0) 48 (0, 0)) := by rw [← hW4, ← hg, flc_zero]; exact heap_new W3 _ _
              have b4 : Below W3.heap.size W3 W4 := by rw [← hW4]; exact (Below.refl _ _).alloc (Nat.le_refl _) _
              have HK4 := Lib.hid k4
              have HB4 := Lib.hid b4
              have HG := Lib.hid hg
              have hok0 : Hid (∀ i, i < 0 → (numV (os.getD i [])).2 = true) := Lib.hid (fun i h => absurd h (Nat.not_lt_zero i))
              have hgw : w.heap.size < g := by omega
              have hgw1 : ¬ g = w.heap.size := by omega
              have hgw2 : ¬ w.heap.size = g := by omega
              have hm3 : (m : Int) ≤ 3 := by omega
              rw [hW4, hg]
              clear hW4 k4 b4 hg hlt3
              go_loopw [51] (fun iv wr => ∃ k : Nat, iv = .int .i64 (k : Int) ∧ k ≤ m ∧ Hid (∀ i, i < k → (numV (os.getD i [])).2 = true) ∧ Hid (wr.heap[g]? = some (.cells (flc os k) 48 (0, 0))) ∧ Hid (Below W3.heap.size W3 wr)) (fun iv _ => m - (RowKit.intOf iv).toNat)
              case atStart => exact ⟨0, rfl, by omega, hok0, HK4, HB4⟩
              case round =>
                clear hok0 HK4 HB4
                obtain ⟨k, rfl, hk, HOK, HK, HB⟩ := hrel
                by_cases hlt : k < m
                · exact absurd hlt (by have := hN1.out; omega)
                · obtain rfl : k = m := by omega
                  have hki : ¬ (k : Int) < (k : Int) := by omega
                  have hkd : decide ((k : Int) < (k : Int)) = false := decide_eq_false hki
                  rw [nums_good os (by rw [hn]; exact HOK.out)] at hV1
                  dsimp only at hV1
                  have hmk : mk4 op (os.map fun p => (numV p).1) = ((op : Int), fl os k 0, fl os k 1, fl os k 2) := by
                    unfold mk4
                    rw [fl_map, fl_map, fl_map, hn]
                  rw [hmk] at hV1
                  have e0 : wr.cell? ⟨g, 0, none⟩ = some (.int .i64 (fl os k 0)) := cel HK.out 0
                  have e1 : wr.cell? ⟨g, 1, none⟩ = some (.int .i64 (fl os k 1)) := cel HK.out 1
                  have e2 : wr.cell? ⟨g, 2, none⟩ = some (.int .i64 (fl os k 2)) := cel HK.out 2
                  obtain ⟨A, hA⟩ : ∃ A, fl os k 0 = A := ⟨_, rfl⟩
                  obtain ⟨B, hB⟩ : ∃ B, fl os k 1 = B := ⟨_, rfl⟩
                  obtain ⟨C, hC⟩ : ∃ C, fl os k 2 = C := ⟨_, rfl⟩
                  rw [hA] at hV1 e0
                  rw [hB] at hV1 e1
                  rw [hC] at hV1 e2
                  obtain ⟨c, hc⟩ : ∃ c, ins.chkI (op : Int) A B C = c := ⟨_, rfl⟩
                  rw [show chk ((op : Int), A, B, C) = c from hc] at hV1
                  have CK := Lib.hid (fun w => HCk.out A B C c w hc)
                  have HB5 := Lib.hid (tr3 B3.out HB.out)
                  have k5 := kb K3.out HB.out
                  have hltr : w.heap.size < wr.heap.size := (Array.getElem?_eq_some_iff.1 k5).1
                  obtain ⟨W5, hW5⟩ : ∃ W5, wr.alloc (.cells #[.int .i64 (op : Int), .int .i64 A, .int .i64 B, .int .i64 C] 23) = W5 := ⟨_, rfl⟩
                  have hk6 : W5.heap[wr.heap.size]? = some (.cells #[.int .i64 (op : Int), .int .i64 A, .int .i64 B, .int .i64 C] 23 (0, 0)) := by rw [← hW5]; exact heap_new wr _ _
                  have hb5 : Below wr.heap.size wr W5 := by rw [← hW5]; exact (Below.refl _ _).alloc (Nat.le_refl _) _
                  have K5 := Lib.hid (kb k5 hb5)
                  have HK6 := Lib.hid hk6
                  have HB6 := Lib.hid (tr3 HB5.out hb5)
                  have HW5 := Lib.hid hW5
                  clear hA hB hC hc hmk HOK HK HB hb5 hk6 k5 hW5 HCk
                  have hnx : ¬ wr.heap.size = w.heap.size := by omega
                  have hnx2 : ¬ w.heap.size = wr.heap.size := by omega
                  go_wp2_with fail
                  rw [HW5.out]
                  refine (CK.out _).mono ?_
                  rintro e w8 ⟨rfl, hb8⟩
                  have hk8 := kb HK6.out hb8
                  have k8 := kb K5.out hb8
                  have K8 := Lib.hid k8
                  have HB8 := Lib.hid (tr3 HB6.out hb8)
                  have x0 : w8.cell? ⟨wr.heap.size, 0, none⟩ = some (.int .i64 (op : Int)) := cel hk8 0
                  have x1 : w8.cell? ⟨wr.heap.size, 1, none⟩ = some (.int .i64 A) := cel hk8 1
                  have x2 : w8.cell? ⟨wr.heap.size, 2, none⟩ = some (.int .i64 B) := cel hk8 2
                  have x3 : w8.cell? ⟨wr.heap.size, 3, none⟩ = some (.int .i64 C) := cel hk8 3
                  have r0 : w8.cell? ⟨w.heap.size, 0, none⟩ = some (.int .i64 0) := cel k8 0
                  have r1 : w8.cell? ⟨w.heap.size, 1, none⟩ = some (.int .i64 0) := cel k8 1
                  have r2 : w8.cell? ⟨w.heap.size, 2, none⟩ = some (.int .i64 0) := cel k8 2
                  have r3 : w8.cell? ⟨w.heap.size, 3, none⟩ = some (.int .i64 0) := cel k8 3
                  have rf0 : w8.frozen? ⟨w.heap.size, 0, none⟩ = false := frz k8 0
                  have rf1 : w8.frozen? ⟨w.heap.size, 1, none⟩ = false := frz k8 1
                  have rf2 : w8.frozen? ⟨w.heap.size, 2, none⟩ = false := frz k8 2
                  have rf3 : w8.frozen? ⟨w.heap.size, 3, none⟩ = false := frz k8 3
                  clear hb8 hk8 CK HB5 HB6 HK6 K5 HW5 e0 e1 e2
                  by_cases h0 : c = 0
                  · subst h0
                    rw [if_pos rfl] at hV1
                    subst hV1
                    go_wp2_with fail
                    exact bodyPost_ret (res_ins Tryd.results8 rfl rfl (st4_blk (a' := .int .i64 (op : Int)) (b' := .int .i64 A) (c' := .int .i64 B) (d' := .int .i64 C) K8.out)) rfl ⟨rfl, st4_below HB8.out (Nat.le_refl _) _ _ _ _⟩
                  · have hcb : ((c : Int) != 0) = true := by rw [bne, beq_eq_false_iff_ne.2 h0]; rfl
                    rw [if_neg h0] at hV1
                    subst hV1
                    clear x0 x1 x2 x3
                    go_wp2_with fail
                    exact bodyPost_ret (res_ins Tryd.results8 rfl rfl (st4_blk (a' := .int .i64 0) (b' := .int .i64 0) (c' := .int .i64 0) (d' := .int .i64 0) K8.out)) rfl ⟨rfl, st4_below HB8.out (Nat.le_refl _) _ _ _ _⟩
            · have hcc1 : 1 < cp := by omega
              go_wp2_with fail
              go_quiet ((go_at_call 23; exact quiet_eq (CFm.out _)))
              obtain ⟨ad, c0, he, hso⟩ : ∃ ad c0, Value.slice (some ⟨b, o + 1, none⟩) (n1 - 1) (cp - 1) = Value.slice ad m c0 ∧ SV w2 (.slice ad m c0) os := by
                have hn0 : n1 - 1 = m := by have := hN1.out; omega
                refine ⟨_, cp - 1, by rw [hn0], ?_⟩
                have h5 := HSV.out
                rw [show n1 = m + 1 by omega] at h5
                exact SV.rest h5
              rw [he]
              obtain ⟨W3, hW3⟩ : ∃ W3, w2.drewN nq = W3 := ⟨_, rfl⟩
              have hb3 : Below w2.heap.size w2 W3 := by rw [← hW3]; exact below_drewN (Below.refl _ _) nq
              have k3 := kb K2.out hb3
              have hlt3 : w.heap.size < W3.heap.size := (Array.getElem?_eq_some_iff.1 k3).1
              have K3 := Lib.hid k3
              have B3 := Lib.hid (tr3 B2.out hb3)
              rw [hW3]
              have HSO := Lib.hid (hso.below hb3)
              have HN3 := Lib.hid (HN.out.below B3.out)
              have HM3 := Lib.hid (HM.out.below B3.out)
              clear hso he hW3 hb3 k3 K2 B2 HSV CFm
              go_wp2_with fail
              obtain ⟨g, hg⟩ : ∃ g, W3.heap.size = g := ⟨_, rfl⟩
              obtain ⟨W4, hW4⟩ : ∃ W4, W3.alloc (.cells #[.int .i64 0, .int .i64 0, .int .i64 0] 48) = W4 := ⟨_, rfl⟩
              have k4 : W4.heap[g]? = some (.cells (flc os 0) 48 (0, 0)) := by rw [← hW4, ← hg, flc_zero]; exact heap_new W3 _ _
              have b4 : Below W3.heap.size W3 W4 := by rw [← hW4]; exact (Below.refl _ _).alloc (Nat.le_refl _) _
              have HK4 := Lib.hid k4
              have HB4 := Lib.hid b4
              have HG := Lib.hid hg
              have hok0 : Hid (∀ i, i < 0 → (numV (os.getD i [])).2 = true) := Lib.hid (fun i h => absurd h (Nat.not_lt_zero i))
              have hgw : w.heap.size < g := by omega
              have hgw1 : ¬ g = w.heap.size := by omega
              have hgw2 : ¬ w.heap.size = g := by omega
              have hm3 : (m : Int) ≤ 3 := by omega
              rw [hW4, hg]
              clear hW4 k4 b4 hg hlt3
              go_loopw [51] (fun iv wr => ∃ k : Nat, iv = .int .i64 (k : Int) ∧ k ≤ m ∧ Hid (∀ i, i < k → (numV (os.getD i [])).2 = true) ∧ Hid (wr.heap[g]? = some (.cells (flc os k) 48 (0, 0))) ∧ Hid (Below W3.heap.size W3 wr)) (fun iv _ => m - (RowKit.intOf iv).toNat)
              case atStart => exact ⟨0, rfl, by omega, hok0, HK4, HB4⟩
              case round =>
                clear hok0 HK4 HB4
                obtain ⟨k, rfl, hk, HOK, HK, HB⟩ := hrel
                by_cases hlt : k < m
                · have hki : (k : Int) < (m : Int) := by omega
                  have hkd : decide ((k : Int) < (m : Int)) = true := decide_eq_true hki
                  have hk3 : (k : Int) < 3 := by omega
                  obtain ⟨bb, oo, rfl, hbl, hcl⟩ := SV.cell (HSO.out.below HB.out) k hlt
                  have hpl := HPT.out k (by omega)
                  have hset := flc_set os k (by omega)
                  obtain ⟨s2, hs2⟩ : ∃ s2, os.getD k [] = s2 := ⟨_, rfl⟩
                  rw [hs2] at hcl hpl hset
                  have CN := Lib.hid (wd.num_v s2 wr hpl (HM3.out.below HB.out))
                  obtain ⟨nv, hnv⟩ : ∃ nv, (numV s2).1 = nv := ⟨_, rfl⟩
                  obtain ⟨okv, hokv⟩ : ∃ okv, (numV s2).2 = okv := ⟨_, rfl⟩
                  rw [hnv] at CN hset
                  rw [hokv] at CN
                  replace hset := hset nv rfl
                  have HSET := Lib.hid hset
                  have hbl2 : bb < wr.heap.size := hbl
                  clear hset hnv hpl
                  cases okv with
                  | true =>
                    have hok1 : ∀ i, i < k + 1 → (numV (os.getD i [])).2 = true := by
                      intro i hi
                      by_cases e : i = k
                      · subst e; rw [hs2]; exact hokv
                      · exact HOK.out i (by omega)
                    have HOK1 := Lib.hid hok1
                    clear hok1 hokv hs2 HOK
                    go_wp2_with fail
                    refine CN.out.mono ?_
                    rintro e w6 ⟨rfl, hb6⟩
                    have k6 := kb HK.out hb6
                    have hck : w6.cell? ⟨g, k, none⟩ = some (.int .i64 (fl os k k)) := by rw [cel k6 k]; exact flc_at os k k (by omega)
                    have hfk : w6.frozen? ⟨g, k, none⟩ = false := frz k6 k
                    have HK6 := Lib.hid (set_blk w6 g k (.int .i64 nv) k6)
                    have HB6 := Lib.hid ((HB.out.trans (hb6.mono HB.out.size)).setCell (p := ⟨g, k, none⟩) (by show W3.heap.size ≤ g; rw [HG.out]; exact Nat.le_refl _) (.int .i64 nv))
                    rw [HSET.out] at HK6
                    clear hb6 k6 CN HK HB HSET hcl
                    go_wp2_with fail
                    go_roundw
                    case rel => exact ⟨k + 1, by go_num, by omega, HOK1, HK6, HB6⟩
                    case measure => first | (simp [RowKit.intOf]; done) | (simp [RowKit.intOf]; omega)
                  | false =>
                    rw [nums_bad os k (by omega) (by rw [hs2]; exact hokv)] at hV1
                    dsimp only at hV1
                    subst hV1
                    clear hokv hs2 HOK
                    go_wp2_with fail
                    refine CN.out.mono ?_
                    rintro e w6 ⟨rfl, hb6⟩
                    have k6 := kb HK.out hb6
                    have hck : w6.cell? ⟨g, k, none⟩ = some (.int .i64 (fl os k k)) := by rw [cel k6 k]; exact flc_at os k k (by omega)
                    have hfk : w6.frozen? ⟨g, k, none⟩ = false := frz k6 k
                    have hB6 := (HB.out.trans (hb6.mono HB.out.size)).setCell (p := ⟨g, k, none⟩) (by show W3.heap.size ≤ g; rw [HG.out]; exact Nat.le_refl _) (.int .i64 nv)
                    have k7 := kb K3.out hB6
                    have k60 := kb K3.out (HB.out.trans (hb6.mono HB.out.size))
                    have HB7 := Lib.hid (tr3 B3.out hB6)
                    have K7 := Lib.hid k7
                    have p0 : w6.cell? ⟨w.heap.size, 0, none⟩ = some (.int .i64 0) := cel k60 0
                    have p1 : w6.cell? ⟨w.heap.size, 1, none⟩ = some (.int .i64 0) := cel k60 1
                    have p2 : w6.cell? ⟨w.heap.size, 2, none⟩ = some (.int .i64 0) := cel k60 2
                    have p3 : w6.cell? ⟨w.heap.size, 3, none⟩ = some (.int .i64 0) := cel k60 3
                    have pf0 : w6.frozen? ⟨w.heap.size, 0, none⟩ = false := frz k60 0
                    have pf1 : w6.frozen? ⟨w.heap.size, 1, none⟩ = false := frz k60 1
                    have pf2 : w6.frozen? ⟨w.heap.size, 2, none⟩ = false := frz k60 2
                    have pf3 : w6.frozen? ⟨w.heap.size, 3, none⟩ = false := frz k60 3
                    have q0 : (w6.setCell ⟨g, k, none⟩ (.int .i64 nv)).cell? ⟨w.heap.size, 0, none⟩ = some (.int .i64 0) := cel k7 0
                    have q1 : (w6.setCell ⟨g, k, none⟩ (.int .i64 nv)).cell? ⟨w.heap.size, 1, none⟩ = some (.int .i64 0) := cel k7 1
                    have q2 : (w6.setCell ⟨g, k, none⟩ (.int .i64 nv)).cell? ⟨w.heap.size, 2, none⟩ = some (.int .i64 0) := cel k7 2
                    have q3 : (w6.setCell ⟨g, k, none⟩ (.int .i64 nv)).cell? ⟨w.heap.size, 3, none⟩ = some (.int .i64 0) := cel k7 3
                    have qf0 : (w6.setCell ⟨g, k, none⟩ (.int .i64 nv)).frozen? ⟨w.heap.size, 0, none⟩ = false := frz k7 0
                    have qf1 : (w6.setCell ⟨g, k, none⟩ (.int .i64 nv)).frozen? ⟨w.heap.size, 1, none⟩ = false := frz k7 1
                    have qf2 : (w6.setCell ⟨g, k, none⟩ (.int .i64 nv)).frozen? ⟨w.heap.size, 2, none⟩ = false := frz k7 2
                    have qf3 : (w6.setCell ⟨g, k, none⟩ (.int .i64 nv)).frozen? ⟨w.heap.size, 3, none⟩ = false := frz k7 3
                    clear hb6 k6 CN HK HB HSET hcl hB6 k7 k60
                    go_wp2_with fail
                    exact bodyPost_ret (res_ins Tryd.results8 rfl rfl (st4_blk (a' := .int .i64 0) (b' := .int .i64 0) (c' := .int .i64 0) (d' := .int .i64 0) K7.out)) rfl ⟨rfl, st4_below HB7.out (Nat.le_refl _) _ _ _ _⟩
                · obtain rfl : k = m := by omega
                  have hki : ¬ (k : Int) < (k : Int) := by omega
                  have hkd : decide ((k : Int) < (k : Int)) = false := decide_eq_false hki
                  rw [nums_good os (by rw [hn]; exact HOK.out)] at hV1
                  dsimp only at hV1
                  have hmk : mk4 op (os.map fun p => (numV p).1) = ((op : Int), fl os k 0, fl os k 1, fl os k 2) := by
                    unfold mk4
                    rw [fl_map, fl_map, fl_map, hn]
                  rw [hmk] at hV1
                  have e0 : wr.cell? ⟨g, 0, none⟩ = some (.int .i64 (fl os k 0)) := cel HK.out 0
                  have e1 : wr.cell? ⟨g, 1, none⟩ = some (.int .i64 (fl os k 1)) := cel HK.out 1
                  have e2 : wr.cell? ⟨g, 2, none⟩ = some (.int .i64 (fl os k 2)) := cel HK.out 2
                  obtain ⟨A, hA⟩ : ∃ A, fl os k 0 = A := ⟨_, rfl⟩
                  obtain ⟨B, hB⟩ : ∃ B, fl os k 1 = B := ⟨_, rfl⟩
                  obtain ⟨C, hC⟩ : ∃ C, fl os k 2 = C := ⟨_, rfl⟩
                  rw [hA] at hV1 e0
                  rw [hB] at hV1 e1
                  rw [hC] at hV1 e2
                  obtain ⟨c, hc⟩ : ∃ c, ins.chkI (op : Int) A B C = c := ⟨_, rfl⟩
                  rw [show chk ((op : Int), A, B, C) = c from hc] at hV1
                  have CK := Lib.hid (fun w => HCk.out A B C c w hc)
                  have HB5 := Lib.hid (tr3 B3.out HB.out)
                  have k5 := kb K3.out HB.out
                  have hltr : w.heap.size < wr.heap.size := (Array.getElem?_eq_some_iff.1 k5).1
                  obtain ⟨W5, hW5⟩ : ∃ W5, wr.alloc (.cells #[.int .i64 (op : Int), .int .i64 A, .int .i64 B, .int .i64 C] 23) = W5 := ⟨_, rfl⟩
                  have hk6 : W5.heap[wr.heap.size]? = some (.cells #[.int .i64 (op : Int), .int .i64 A, .int .i64 B, .int .i64 C] 23 (0, 0)) := by rw [← hW5]; exact heap_new wr _ _
                  have hb5 : Below wr.heap.size wr W5 := by rw [← hW5]; exact (Below.refl _ _).alloc (Nat.le_refl _) _
                  have K5 := Lib.hid (kb k5 hb5)
                  have HK6 := Lib.hid hk6
                  have HB6 := Lib.hid (tr3 HB5.out hb5)
                  have HW5 := Lib.hid hW5
                  clear hA hB hC hc hmk HOK HK HB hb5 hk6 k5 hW5 HCk
                  have hnx : ¬ wr.heap.size = w.heap.size := by omega
                  have hnx2 : ¬ w.heap.size = wr.heap.size := by omega
                  go_wp2_with fail
                  rw [HW5.out]
                  refine (CK.out _).mono ?_
                  rintro e w8 ⟨rfl, hb8⟩
                  have hk8 := kb HK6.out hb8
                  have k8 := kb K5.out hb8
                  have K8 := Lib.hid k8
                  have HB8 := Lib.hid (tr3 HB6.out hb8)
                  have x0 : w8.cell? ⟨wr.heap.size, 0, none⟩ = some (.int .i64 (op : Int)) := cel hk8 0
                  have x1 : w8.cell? ⟨wr.heap.size, 1, none⟩ = some (.int .i64 A) := cel hk8 1
                  have x2 : w8.cell? ⟨wr.heap.size, 2, none⟩ = some (.int .i64 B) := cel hk8 2
                  have x3 : w8.cell? ⟨wr.heap.size, 3, none⟩ = some (.int .i64 C) := cel hk8 3
                  have r0 : w8.cell? ⟨w.heap.size, 0, none⟩ = some (.int .i64 0) := cel k8 0
                  have r1 : w8.cell? ⟨w.heap.size, 1, none⟩ = some (.int .i64 0) := cel k8 1
                  have r2 : w8.cell? ⟨w.heap.size, 2, none⟩ = some (.int .i64 0) := cel k8 2
                  have r3 : w8.cell? ⟨w.heap.size, 3, none⟩ = some (.int .i64 0) := cel k8 3
                  have rf0 : w8.frozen? ⟨w.heap.size, 0, none⟩ = false := frz k8 0
                  have rf1 : w8.frozen? ⟨w.heap.size, 1, none⟩ = false := frz k8 1
                  have rf2 : w8.frozen? ⟨w.heap.size, 2, none⟩ = false := frz k8 2
                  have rf3 : w8.frozen? ⟨w.heap.size, 3, none⟩ = false := frz k8 3
                  clear hb8 hk8 CK HB5 HB6 HK6 K5 HW5 e0 e1 e2
                  by_cases h0 : c = 0
                  · subst h0
                    rw [if_pos rfl] at hV1
                    subst hV1
                    go_wp2_with fail
                    exact bodyPost_ret (res_ins Tryd.results8 rfl rfl (st4_blk (a' := .int .i64 (op : Int)) (b' := .int .i64 A) (c' := .int .i64 B) (d' := .int .i64 C) K8.out)) rfl ⟨rfl, st4_below HB8.out (Nat.le_refl _) _ _ _ _⟩
                  · have hcb : ((c : Int) != 0) = true := by rw [bne, beq_eq_false_iff_ne.2 h0]; rfl
                    rw [if_neg h0] at hV1
                    subst hV1
                    clear x0 x1 x2 x3
                    go_wp2_with fail
                    exact bodyPost_ret (res_ins Tryd.results8 rfl rfl (st4_blk (a' := .int .i64 0) (b' := .int .i64 0) (c' := .int .i64 0) (d' := .int .i64 0) K8.out)) rfl ⟨rfl, st4_below HB8.out (Nat.le_refl _) _ _ _ _⟩
end Go.Proofs.YtgkfnplgldigbaaDoor.asm
