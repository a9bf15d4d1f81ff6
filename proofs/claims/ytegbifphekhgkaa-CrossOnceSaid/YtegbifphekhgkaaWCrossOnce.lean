/- An iteration that waits goes on just once, never ahead of time: the law CrossOnce answers true. No condition. -/
import Derived.Test.YtegbifphekhgkaaCrW
import Derived.Test.YtegbifphekhgkaaGrids
import Derived.Deep.DeepCutAuto
namespace Go.Proofs.Ytegbifphekhgkaa.crossOnce
open Go.ChangeShapes Go.WideShapes Go.ChangeAt Go.RowKit
set_option linter.unusedVariables false
set_option linter.unusedSimpArgs false
def MA (n l k : Nat) (q : Q) : Prop := psi n q = 0 ∨ psi n q + ((k + 1) / 2 - (l + 1) / 2) ≤ 124
def MB (l k : Nat) (q : Q) : Prop := q.pb = 4 ∨ (4 - q.pb) + (k / 2 - l / 2) ≤ 4
/-- Who steps: the order says so, then they take turns. -/
theorem ma_a {n l k : Nat} {q q' : Q} (h : MA n l k q) (h1 : Less (psi n q') (psi n q)) : MA n l (k + 1) q' := by
  unfold MA Less at *
  omega
theorem ma_b {n l k : Nat} {q q' : Q} (h : MA n l k q) (h1 : psi n q' ≤ psi n q) (hk : k < l ∨ k % 2 = 1) : MA n l (k + 1) q' := by
  unfold MA at *
  omega
theorem mb_a {l k : Nat} {q q' : Q} (h : MB l k q) (h1 : q'.pb = q.pb) (hk : k < l ∨ k % 2 = 0) : MB l (k + 1) q' := by
  unfold MB at *
  omega
theorem mb_b {l k : Nat} {q q' : Q} (h : MB l k q) (h1 : LessB q' q) : MB l (k + 1) q' := by
  unfold MB LessB at *
  omega
theorem big1 (a0 : Option Addr) (len0 cap0 : Nat) (st : Int) (a2 : Option Addr) (len2 cap2 : Nat) (w : World) (h : 60 < len0) : Calls Try.prog 9 #[.slice a0 len0 cap0, .int .u8 st, .slice a2 len2 cap2] w fun e w' => e = .returned (.bool true) ∧ Below w.heap.size w w' := by
  go_enter Try.func9, Try.ntmps9
  go_wp2_with (first | (go_at_call 30; refine (works19 _).mono ?_; rintro e w1 ⟨rfl, hb1⟩))
  go_ret
  exact ⟨rfl, hb1⟩
theorem big2 (a0 : Option Addr) (len0 cap0 : Nat) (st : Int) (a2 : Option Addr) (len2 cap2 : Nat) (w : World) (h0 : len0 ≤ 60) (h : 400 < len2) : Calls Try.prog 9 #[.slice a0 len0 cap0, .int .u8 st, .slice a2 len2 cap2] w fun e w' => e = .returned (.bool true) ∧ Below w.heap.size w w' := by
  have h1 : ¬ (60 : Int) < (len0 : Int) := by omega
  have h2 : (400 : Int) < (len2 : Int) := by omega
  go_enter Try.func9, Try.ntmps9
  go_wp2_with (first | (go_at_call 30; refine (works19 _).mono ?_; rintro e w1 ⟨rfl, hb1⟩))
  go_ret
  exact ⟨rfl, hb1⟩
set_option maxHeartbeats 4000000 in
set_option maxRecDepth 20000 in
theorem core (a0 : Option Addr) (n cap0 : Nat) (s0 st : Int) (a2 : Option Addr) (len cap : Nat) (z : Nat → Bool) (w : World) (hn : n ≤ 60) (hlen : len ≤ 400) (hs0 : 0 ≤ s0) (hs1 : s0 ≤ 255) (hst : Hid (s0.tmod 60 = st)) (st0 : 0 ≤ st) (st1 : st ≤ 59) (hS : Hid (Stages w a0 n)) (hy : Hid (∀ j, j < len → ∃ b off, a2 = some ⟨b, off, none⟩ ∧ b < w.heap.size ∧ w.cell? ⟨b, off + j, none⟩ = some (.bool (z j)))) :
    Calls Try.prog 9 #[.slice a0 n cap0, .int .u8 s0, .slice a2 len cap] w fun e w' => e = .returned (.bool true) ∧ Below w.heap.size w w' := by
  have g1 : ¬ (60 : Int) < (n : Int) := by omega
  have g2 : ¬ (400 : Int) < (len : Int) := by omega
  have d60 : decide ((60 : Int) < (n : Int)) = false := by simp; omega
  have d400 : decide ((400 : Int) < (len : Int)) = false := by simp; omega
  have ws : IntKind.i64.wrap s0 = s0 := by rw [IntKind.wrap_i64]; omega
  have hst' : s0.tmod 60 = st := hst.out
  go_enter Try.func9, Try.ntmps9
  go_wp2_with (first | (go_at_call 30; refine (works19 _).mono ?_; rintro e w0 ⟨rfl, hb0⟩))
  refine (plan17 _).mono ?_
  rintro e w1 ⟨rfl, hb1⟩
  replace hb1 := btr hb0 hb1
  clear hb0
  go_wp2_with fail
  obtain ⟨W, hW⟩ : ∃ W, W = w1.alloc (Obj.cells #[Value.int IntKind.i64 1, Value.int IntKind.i64 3, Value.int IntKind.i64 3, Value.int IntKind.i64 3] 25) := ⟨_, rfl⟩
  have hp : PCAt W w1.heap.size := by rw [hW]; exact heap_alloc_new _ _
  have hb : Below w.heap.size w W := by rw [hW]; exact btr hb1 (by go_grown)
  rw [← hW]
  clear hW hb1
  generalize w1.heap.size = P at *
  obtain ⟨p0, p1, p2, p3⟩ := hp.cells
  refine (size_of 1 3 3 3 7 54 _ okay17 (Lib.hid (by decide)) (Lib.hid (by decide))).mono ?_
  rintro e w2 ⟨rfl, hb2⟩
  clear p0 p1 p2 p3
  replace hp : PCAt w2 P := bkeep hp hb2
  replace hb := btr hb hb2
  clear hb2
  obtain ⟨p0, p1, p2, p3⟩ := hp.cells
  go_wp2_with fail
  refine (new_n 61 w2 (by decide)).mono ?_
  rintro e w3 ⟨rfl, hs, hb2⟩
  clear p0 p1 p2 p3
  have hPg0 : P < w2.heap.size := lt_of_heap hp
  have h : J w w3 (w2.heap.size + 1) w2.heap.size (List.replicate 61 0) := ⟨hs, btr hb hb2, hb.size⟩
  replace hp : PCAt w3 P := bkeep hp hb2
  have hPg : Hid (P ≠ w2.heap.size) := Lib.hid (by omega)
  clear hb hb2 hs hPg0
  generalize w2.heap.size + 1 = S at *
  generalize w2.heap.size = g at *
  obtain ⟨p0, p1, p2, p3⟩ := hp.cells
  go_wp2_with fail
  refine (new17 1 9 w3).mono ?_
  rintro e w4 ⟨rfl, hb2⟩
  clear p0 p1 p2 p3
  replace hp : PCAt w4 P := bkeep hp hb2
  replace h := h.below' hb2
  clear hb2
  go_wp2_with fail
  obtain ⟨W, hW⟩ : ∃ W, W = w4.alloc (Obj.cells #[Value.int IntKind.i64 1, Value.int IntKind.i64 3, Value.int IntKind.i64 3, Value.int IntKind.i64 3, Value.int IntKind.i64 1, Value.int IntKind.i64 9] 69) := ⟨_, rfl⟩
  have hr : RIAt W w4.heap.size 1 9 := by rw [hW]; exact heap_alloc_new _ _
  have hb : Below w4.heap.size w4 W := by rw [hW]; go_grown
  rw [← hW]
  clear hW
  have hRg : Hid (w4.heap.size ≠ g) := Lib.hid (by have := h.1.facts.2.2.2.2.2; omega)
  have hPR : Hid (P ≠ w4.heap.size) := Lib.hid (by have := lt_of_heap hp; omega)
  replace h := h.below' hb
  replace hp : PCAt W P := bkeep hp hb
  clear hb
  generalize w4.heap.size = R at *
  obtain ⟨r0, r1, r2, r3, r4, r5⟩ := hr.cells
  go_wp2_with fail
  refine (rlink_j S g 15 (List.replicate 61 0) 1 9 1 7 1 2 w _ h (by decide) (by decide) (Lib.hid (by decide)) (by decide) (Lib.hid (by decide)) (Lib.hid (by decide)) (by simp) (by simp)).mono ?_
  rintro e wz ⟨rfl, hj, hk⟩
  clear r0 r1 r2 r3 r4 r5
  replace h := hj
  replace hr : RIAt wz R 1 9 := hk.block hr hRg.out
  clear hj hk hp hPR
  go_wp2_with fail
  obtain ⟨Wz, hWz⟩ : ∃ Wz, Wz = (wz.alloc (Obj.cells #[Value.slice a0 n cap0, Value.int IntKind.i64 0, Value.int IntKind.i64 0, Value.pointer none, Value.int IntKind.i64 0] 91)).alloc (Obj.cells #[Value.int IntKind.i64 st, Value.bool false, Value.pointer none, Value.int IntKind.i64 0] 94) := ⟨_, rfl⟩
  have hA : AhAt Wz wz.heap.size a0 n cap0 0 0 none 0 := by
    rw [hWz]
    show ((wz.heap.push _).push _)[wz.heap.size]? = _
    rw [Array.getElem?_push_lt (by simp)]
    simp [AhC]
  have hB : BhAt Wz (wz.heap.size + 1) st false none 0 := by
    rw [hWz]
    have e1 := heap_alloc_new (wz.alloc (Obj.cells #[Value.slice a0 n cap0, Value.int IntKind.i64 0, Value.int IntKind.i64 0, Value.pointer none, Value.int IntKind.i64 0] 91)) (Obj.cells #[Value.int IntKind.i64 st, Value.bool false, Value.pointer none, Value.int IntKind.i64 0] 94)
    rw [World.size_alloc] at e1
    exact e1
  have hb : Below wz.heap.size wz Wz := by rw [hWz]; go_grown
  rw [← hWz]
  clear hWz
  have hgl := h.1.facts.2.2.2.2.2
  have hSl := h.1.facts.2.2.2.2.1
  have hRl := lt_of_heap hr
  have h00 := h.2.1.size
  have hC : Hid (CW w Wz S g wz.heap.size (wz.heap.size + 1) a0 n cap0 st R ⟨0, 0, 0, 0, 0, 0, 0⟩ 0 0 0) := Lib.hid
    ⟨h.below' hb, hA, hB, (fun e => absurd rfl e), (fun e => by simp at e), by omega, by omega, by omega, by omega, by omega, by omega, by omega, bkeep hr hb, hRg.out, by omega, by omega, (fun e => absurd rfl e), (fun e => by simp at e)⟩
  clear hA hB hb hgl hSl hRl h00 h hr
  generalize wz.heap.size + 1 = B at *
  generalize wz.heap.size = A at *
  go_loopw [12] (fun i wr => ∃ (k : Nat) (q : Q) (R' P' : Nat) (fr : Int), i = .int .i64 k ∧ k ≤ len + 400 ∧ Hid (CW w wr S g A B a0 n cap0 st R q R' P' fr) ∧ Hid (Inv n st q) ∧ Hid (MA n len k q) ∧ Hid (MB len k q)) (fun i _ => len + 400 - (intOf i).toNat)
  case atStart => exact ⟨0, _, 0, 0, 0, rfl, by omega, hC, Lib.hid (inv_start n st), Lib.hid (Or.inr (by have := psi_start n hn; omega)), Lib.hid (Or.inr (by simp))⟩
  case round =>
    clear hC
    obtain ⟨k, q, R', P', fr, rfl, hk, hC, hI, hMA, hMB⟩ := hrel
    by_cases hlt : k < len + 400
    · have hlt' : (k : Int) < (len : Int) + 400 := by omega
      have ek : (k : Int).toNat = k := by omega
      obtain ⟨r0, r1, r2, r3, r4, r5⟩ := hC.out.x.cells
      by_cases hkl : k < len
      · have hkl' : (k : Int) < (len : Int) := by omega
        obtain ⟨yb, off, rfl, hyb, hz⟩ := hy.out k hkl
        have hz' : wr.cell? ⟨yb, off + k, none⟩ = some (.bool (z k)) := (hC.out.j.2.1.cell (p := ⟨yb, off + k, none⟩) hyb).trans hz
        have HZ := Lib.hid hz
        clear hz
        generalize z k = zk at hz'
        cases zk
        · go_wp2_with fail
          refine (b_step S g A B a0 n cap0 st R q R' P' fr w wr st0 st1 hn hS.out hI.out hC.out).mono ?_
          rintro e w5 ⟨rfl, q', R2, P2, fr2, h2, I2, L2, pb2⟩
          have M1 := Lib.hid (ma_b hMA.out L2 (.inl hkl))
          have M2 := Lib.hid (mb_b hMB.out pb2)
          have HO := inv_ok n st q' st0 st1 I2
          have H2 := Lib.hid h2
          have HI2 := Lib.hid I2
          obtain ⟨a0', a1', a2', a3', a4', af⟩ := h2.a.cells
          obtain ⟨b0', b1', b2', b3', bf⟩ := h2.b.cells
          clear af bf h2 I2 L2 pb2 hC hI hMA hMB r0 r1 r2 r3 r4 r5 a0' a1' a3' b1' b2'
          generalize hga : q'.got = ga at *
          generalize hgb : q'.goes = gb at *
          generalize hgc : q'.come = gc at *
          have HG := Lib.hid (And.intro hga (And.intro hgb hgc))
          clear hga hgb hgc
          obtain ⟨_, _, hs | ⟨hs, hgt⟩⟩ := HO
          · have hw : IntKind.i64.wrap (ga + gb) = 0 := by rw [IntKind.wrap_i64]; omega
            clear hs
            go_wp2_with fail
            go_quiet (fail)
            go_wp2_with fail
            go_roundw
            case rel => exact ⟨k + 1, q', R2, P2, fr2, by go_num, by omega, Lib.hid (H2.out.below (below_drewN (Below.refl _ _) _)), HI2, M1, M2⟩
            case measure => simp [intOf]; omega
          · have hw : IntKind.i64.wrap (ga + gb) = 1 := by rw [IntKind.wrap_i64]; omega
            have hgt' : ¬ gc ≤ st := by omega
            clear hs
            go_wp2_with fail
            go_quiet (fail)
            go_wp2_with fail
            go_roundw
            case rel => exact ⟨k + 1, q', R2, P2, fr2, by go_num, by omega, Lib.hid (H2.out.below (below_drewN (Below.refl _ _) _)), HI2, M1, M2⟩
            case measure => simp [intOf]; omega
        · go_wp2_with fail
          refine (a_step S g A B a0 n cap0 st R q R' P' fr w wr st0 st1 hn hS.out hI.out hC.out).mono ?_
          rintro e w5 ⟨rfl, q', R2, P2, fr2, h2, I2, L2, pb2⟩
          have M1 := Lib.hid (ma_a hMA.out L2)
          have M2 := Lib.hid (mb_a hMB.out pb2 (.inl hkl))
          have HO := inv_ok n st q' st0 st1 I2
          have H2 := Lib.hid h2
          have HI2 := Lib.hid I2
          obtain ⟨a0', a1', a2', a3', a4', af⟩ := h2.a.cells
          obtain ⟨b0', b1', b2', b3', bf⟩ := h2.b.cells
          clear af bf h2 I2 L2 pb2 hC hI hMA hMB r0 r1 r2 r3 r4 r5 a0' a1' a3' b1' b2'
          generalize hga : q'.got = ga at *
          generalize hgb : q'.goes = gb at *
          generalize hgc : q'.come = gc at *
          have HG := Lib.hid (And.intro hga (And.intro hgb hgc))
          clear hga hgb hgc
          obtain ⟨_, _, hs | ⟨hs, hgt⟩⟩ := HO
          · have hw : IntKind.i64.wrap (ga + gb) = 0 := by rw [IntKind.wrap_i64]; omega
            clear hs
            go_wp2_with fail
            go_quiet (fail)
            go_wp2_with fail
            go_roundw
            case rel => exact ⟨k + 1, q', R2, P2, fr2, by go_num, by omega, Lib.hid (H2.out.below (below_drewN (Below.refl _ _) _)), HI2, M1, M2⟩
            case measure => simp [intOf]; omega
          · have hw : IntKind.i64.wrap (ga + gb) = 1 := by rw [IntKind.wrap_i64]; omega
            have hgt' : ¬ gc ≤ st := by omega
            clear hs
            go_wp2_with fail
            go_quiet (fail)
            go_wp2_with fail
            go_roundw
            case rel => exact ⟨k + 1, q', R2, P2, fr2, by go_num, by omega, Lib.hid (H2.out.below (below_drewN (Below.refl _ _) _)), HI2, M1, M2⟩
            case measure => simp [intOf]; omega
      · have hkl' : ¬ (k : Int) < (len : Int) := by omega
        by_cases hpar : k % 2 = 0
        · have hp : ((k : Nat) : Int).tmod 2 = 0 := by rw [Int.tmod_eq_emod_of_nonneg (by omega)]; omega
          go_wp2_with fail
          refine (a_step S g A B a0 n cap0 st R q R' P' fr w wr st0 st1 hn hS.out hI.out hC.out).mono ?_
          rintro e w5 ⟨rfl, q', R2, P2, fr2, h2, I2, L2, pb2⟩
          have M1 := Lib.hid (ma_a hMA.out L2)
          have M2 := Lib.hid (mb_a hMB.out pb2 (.inr hpar))
          have HO := inv_ok n st q' st0 st1 I2
          have H2 := Lib.hid h2
          have HI2 := Lib.hid I2
          obtain ⟨a0', a1', a2', a3', a4', af⟩ := h2.a.cells
          obtain ⟨b0', b1', b2', b3', bf⟩ := h2.b.cells
          clear af bf h2 I2 L2 pb2 hC hI hMA hMB r0 r1 r2 r3 r4 r5 a0' a1' a3' b1' b2'
          generalize hga : q'.got = ga at *
          generalize hgb : q'.goes = gb at *
          generalize hgc : q'.come = gc at *
          have HG := Lib.hid (And.intro hga (And.intro hgb hgc))
          clear hga hgb hgc
          obtain ⟨_, _, hs | ⟨hs, hgt⟩⟩ := HO
          · have hw : IntKind.i64.wrap (ga + gb) = 0 := by rw [IntKind.wrap_i64]; omega
            clear hs
            go_wp2_with fail
            go_quiet (fail)
            go_wp2_with fail
            go_roundw
            case rel => exact ⟨k + 1, q', R2, P2, fr2, by go_num, by omega, Lib.hid (H2.out.below (below_drewN (Below.refl _ _) _)), HI2, M1, M2⟩
            case measure => simp [intOf]; omega
          · have hw : IntKind.i64.wrap (ga + gb) = 1 := by rw [IntKind.wrap_i64]; omega
            have hgt' : ¬ gc ≤ st := by omega
            clear hs
            go_wp2_with fail
            go_quiet (fail)
            go_wp2_with fail
            go_roundw
            case rel => exact ⟨k + 1, q', R2, P2, fr2, by go_num, by omega, Lib.hid (H2.out.below (below_drewN (Below.refl _ _) _)), HI2, M1, M2⟩
            case measure => simp [intOf]; omega
        · have hp : ((k : Nat) : Int).tmod 2 = 1 := by rw [Int.tmod_eq_emod_of_nonneg (by omega)]; omega
          go_wp2_with fail
          refine (b_step S g A B a0 n cap0 st R q R' P' fr w wr st0 st1 hn hS.out hI.out hC.out).mono ?_
          rintro e w5 ⟨rfl, q', R2, P2, fr2, h2, I2, L2, pb2⟩
          have M1 := Lib.hid (ma_b hMA.out L2 (.inr (by omega)))
          have M2 := Lib.hid (mb_b hMB.out pb2)
          have HO := inv_ok n st q' st0 st1 I2
          have H2 := Lib.hid h2
          have HI2 := Lib.hid I2
          obtain ⟨a0', a1', a2', a3', a4', af⟩ := h2.a.cells
          obtain ⟨b0', b1', b2', b3', bf⟩ := h2.b.cells
          clear af bf h2 I2 L2 pb2 hC hI hMA hMB r0 r1 r2 r3 r4 r5 a0' a1' a3' b1' b2'
          generalize hga : q'.got = ga at *
          generalize hgb : q'.goes = gb at *
          generalize hgc : q'.come = gc at *
          have HG := Lib.hid (And.intro hga (And.intro hgb hgc))
          clear hga hgb hgc
          obtain ⟨_, _, hs | ⟨hs, hgt⟩⟩ := HO
          · have hw : IntKind.i64.wrap (ga + gb) = 0 := by rw [IntKind.wrap_i64]; omega
            clear hs
            go_wp2_with fail
            go_quiet (fail)
            go_wp2_with fail
            go_roundw
            case rel => exact ⟨k + 1, q', R2, P2, fr2, by go_num, by omega, Lib.hid (H2.out.below (below_drewN (Below.refl _ _) _)), HI2, M1, M2⟩
            case measure => simp [intOf]; omega
          · have hw : IntKind.i64.wrap (ga + gb) = 1 := by rw [IntKind.wrap_i64]; omega
            have hgt' : ¬ gc ≤ st := by omega
            clear hs
            go_wp2_with fail
            go_quiet (fail)
            go_wp2_with fail
            go_roundw
            case rel => exact ⟨k + 1, q', R2, P2, fr2, by go_num, by omega, Lib.hid (H2.out.below (below_drewN (Below.refl _ _) _)), HI2, M1, M2⟩
            case measure => simp [intOf]; omega
    · obtain rfl : k = len + 400 := by omega
      have hlt' : ¬ ((len + 400 : Nat) : Int) < (len : Int) + 400 := by omega
      have hlt2 : ¬ (len : Int) + 400 < (len : Int) + 400 := by omega
      have hps : psi n q = 0 := by have := hMA.out; unfold MA at this; omega
      have hpb : q.pb = 4 := by have := hMB.out; unfold MB at this; omega
      have hE := inv_end n st q st0 st1 hI.out hps hpb
      obtain ⟨a0', a1', a2', a3', a4', af⟩ := hC.out.a.cells
      obtain ⟨b0', b1', b2', b3', bf⟩ := hC.out.b.cells
      have hs : IntKind.i64.wrap (q.got + q.goes) = 1 := by rw [IntKind.wrap_i64]; omega
      have hat : (q.at_ : Int) = (n : Int) + 1 := by omega
      rw [hat] at a1'
      have hn1 : IntKind.i64.wrap ((n : Int) + 1) = (n : Int) + 1 := by rw [IntKind.wrap_i64]; omega
      clear af bf hE hat hps hpb a2' a3' b0' b1' b2'
      generalize q.got = ga at *
      generalize q.goes = gb at *
      go_wp2_with fail
      go_quiet (fail)
      go_wp2_with fail
      go_ret
      exact ⟨rfl, hC.out.j.2.1.trans ((below_drewN (Below.refl _ _) nq).mono hC.out.j.2.1.size)⟩
theorem walk (a0 : Option Addr) (len0 cap0 : Nat) (z0 : List Int) (a1 : Int) (a2 : Option Addr) (len2 cap2 : Nat) (z2 : Nat → Bool) (w : World) (w0 : IsRow .u8 w a0 len0 cap0 z0) (w1 : (Lit.int .u8 a1).wf = true) (w2 : IsBools w a2 len2 cap2 z2) :
    Calls Try.prog 9 #[.slice a0 len0 cap0, .int .u8 a1, .slice a2 len2 cap2] w fun e w' => e = .returned (.bool true) ∧ Below w.heap.size w w' := by
  have hb := bounds_u8 w1
  by_cases h : 60 < len0
  · exact big1 a0 len0 cap0 a1 a2 len2 cap2 w h
  · by_cases h2 : 400 < len2
    · exact big2 a0 len0 cap0 a1 a2 len2 cap2 w (by omega) h2
    · refine core a0 len0 cap0 a1 (a1.tmod 60) a2 len2 cap2 z2 w (by omega) (by omega) hb.1 (by omega) (Lib.hid rfl) (by rw [Int.tmod_eq_emod_of_nonneg hb.1]; omega) (by rw [Int.tmod_eq_emod_of_nonneg hb.1]; omega) (Lib.hid (fun k hk => ?_)) (Lib.hid (fun j hj => ?_))
      · rcases w0.split with h3 | ⟨b, off, rfl, hlt, hle, hm, hz, hc, hwf⟩
        · omega
        · have hm' : z0.getD k 0 ∈ z0 := by
            rw [List.getD_eq_getElem?_getD, List.getElem?_eq_getElem (by omega)]
            exact List.getElem_mem _
          have hb2 := bounds_u8 (hwf _ hm')
          exact ⟨b, off, z0.getD k 0, rfl, hlt, hc k (by omega), hb2.1, by omega⟩
      · rcases w2.split with h3 | ⟨b, off, rfl, hlt, hle, hm, hc⟩
        · omega
        · exact ⟨b, off, rfl, hlt, hc j (by omega)⟩
end Go.Proofs.Ytegbifphekhgkaa.crossOnce
