/- With how many picks a script repeats itself: the program and the document (layer 43). -/
import Derived.Test.YtokkgfefiblmiaaRpE
import Derived.Test.YtokkgfefiblmiaaRo
import Derived.BigQuiet
import Derived.Deep.CutBlock
import Derived.Laws.StructEq
namespace Go.Proofs.Ytokkgfefiblmiaa.rp
open Go.ChangeShapes Go.WideShapes Go.ChangeAt Go.RowKit
set_option linter.unusedVariables false
set_option linter.unusedSimpArgs false
theorem tr3 {w w1 w2 : World} (h : Below w.heap.size w w1) (h2 : Below w1.heap.size w1 w2) : Below w.heap.size w w2 := h.trans (h2.mono h.size)
theorem below_drewN (w : World) (n : Nat) : Below w.heap.size w (w.drewN n) := ⟨rfl, rfl, rfl, Nat.le_refl _, fun _ _ => rfl⟩
theorem pk_eq (a b c d : Int) (v : Bool) (h : (a == c && b == d) = v) (w : World) : Sem.run Try.prog (binOp .eql 60 (.agg #[.int .i64 a, .int .i64 b]) (.agg #[.int .i64 c, .int .i64 d])) w = .ok (.bool v) w := by
  have e : (Op.equalIn 10000 60 (.agg #[.int .i64 a, .int .i64 b]) (.agg #[.int .i64 c, .int .i64 d])).run Try.prog w = .ok v w := by
    rw [show (10000 : Nat) = 9999 + 1 from rfl, run_equalIn_struct w 9999 60 _ _ (by kernel_rfl) (by kernel_rfl)]
    rw [← h]
    by_cases h1 : a = c <;> by_cases h2 : b = d <;> simp [go_sem, Try.underlying60, h1, h2]
  simp only [binOp]
  simp [Op.equal, Op.maxDepth, e]
theorem pk_ne (a b c d : Int) (v : Bool) (h : (a == c && b == d) = v) (w : World) : Sem.run Try.prog (binOp .neq 60 (.agg #[.int .i64 a, .int .i64 b]) (.agg #[.int .i64 c, .int .i64 d])) w = .ok (.bool (!v)) w := by
  have e : (Op.equalIn 10000 60 (.agg #[.int .i64 a, .int .i64 b]) (.agg #[.int .i64 c, .int .i64 d])).run Try.prog w = .ok v w := by
    rw [show (10000 : Nat) = 9999 + 1 from rfl, run_equalIn_struct w 9999 60 _ _ (by kernel_rfl) (by kernel_rfl)]
    rw [← h]
    by_cases h1 : a = c <;> by_cases h2 : b = d <;> simp [go_sem, Try.underlying60, h1, h2]
  simp only [binOp]
  simp [Op.equal, Op.maxDepth, e]
theorem pk_iff {x y : P2} {v : Bool} (h : (x.1 == y.1 && x.2 == y.2) = v) : v = true ↔ x = y := by
  rw [← h]
  obtain ⟨a, b⟩ := x
  obtain ⟨c, d⟩ := y
  simp
theorem RV.two {w : World} {a : Option Addr} {n c : Nat} {l : List P2} (h : RV 2 enQ w (.slice a n c) l) (i : Nat) (x : P2) (hi : l[i]? = some x) :
    ∃ b f, a = some ⟨b, f, none⟩ ∧ b < w.heap.size ∧ w.cell? ⟨b, f + i * 2, none⟩ = some (.int .i64 x.1) ∧ w.cell? ⟨b, f + i * 2 + 1, none⟩ = some (.int .i64 x.2) := by
  obtain ⟨b, f, e, hlt, hc⟩ := h.at i _ hi
  exact ⟨b, f, e, hlt, hc 0 _ rfl, hc 1 _ rfl⟩
/-- a row of whole numbers of the call's own. -/
def RowI (w : World) (G : Nat) (xs : List Int) : Prop := w.heap[G]? = some (.cells (xs.map (Value.int .i64)).toArray 3 (0, 0))
theorem RowI.lt {w : World} {G : Nat} {xs : List Int} (h : RowI w G xs) : G < w.heap.size := (Array.getElem?_eq_some_iff.1 h).1
theorem RowI.cell {w : World} {G i : Nat} {xs : List Int} {v : Int} (h : RowI w G xs) (hv : xs[i]? = some v) : w.cell? ⟨G, i, none⟩ = some (.int .i64 v) := by
  unfold RowI at h
  simp [World.cell?, h, hv]
theorem RowI.frozen {w : World} {G : Nat} {xs : List Int} (h : RowI w G xs) (i : Nat) : w.frozen? ⟨G, i, none⟩ = false := by
  unfold RowI at h
  simp [World.frozen?, h]
theorem RowI.below {w w' : World} {G : Nat} {xs : List Int} (h : RowI w G xs) (hb : Below w.heap.size w w') : RowI w' G xs := (hb.block G h.lt).trans h
theorem RowI.set {w : World} {G i : Nat} {xs : List Int} (h : RowI w G xs) (v : Int) : RowI (w.setCell ⟨G, i, none⟩ (.int .i64 v)) G (xs.set i v) := by
  unfold RowI at h ⊢
  have hl := (Array.getElem?_eq_some_iff.1 h).1
  have e := ro.set_blk w G i (.int .i64 v) h
  rw [e]
  congr 2
  apply Array.ext'
  simp [List.map_set]
theorem made (n : Nat) : madeCells #[Value.int .i64 0] n = ((List.replicate n (0 : Int)).map (Value.int .i64)).toArray := by
  apply Array.ext
  · simp [size_madeCells]
  · intro i h1 h2
    simp [madeCells, Nat.mod_one]
theorem run_make_cells (P : Program) (t e : TypeId) (z : Value) (size bytes : Nat) (ht : P.underlying t = some (.slice e)) (hinfo : (P.info? e).map (fun i => (i.zero, i.size, i.bytes)) = some (some z, size, bytes))
    (kl kc : IntKind) (n : Nat) (hbytes : bytes * n ≤ 281474976710656) (h63 : n ≤ 9223372036854775807) (w : World) :
    (Instr.makeSlice t (.int kl (n : Int)) (.int kc (n : Int))).run P w = .ok (.slice (some ⟨w.heap.size, 0, none⟩) n n) (w.alloc (.cells (madeCells z.cells (n * size)) e)) := by
  obtain ⟨i, hi, hzz⟩ := Option.map_eq_some_iff.1 hinfo
  simp only [Prod.mk.injEq] at hzz
  obtain ⟨hz, hs, hb⟩ := hzz
  have hb' : (i.bytes : Int) * (n : Int) ≤ 281474976710656 := by
    have h : ((i.bytes * n : Nat) : Int) ≤ 281474976710656 := by rw [hb]; omega
    rwa [Int.natCast_mul] at h
  have hr := run_make (P := P) w t e i z ht hi hz kl kc n n (by omega) (Int.le_refl _) hb' (by omega)
  simp only [Int.toNat_natCast, hs] at hr
  exact hr
/-- what holds ahead of a round: the borders of all beginnings up to i. -/
structure BI (l : List P2) (N i k G : Nat) (xs : List Int) (w0 w : World) : Prop where
  r : RowI w G xs
  x : xs.length = N
  b : best l i k
  t : ∀ j, 1 ≤ j → j ≤ i → ∃ b : Nat, xs[j]? = some (b : Int) ∧ best l j b
  w : Below w0.heap.size w0 w
theorem BI.next {l : List P2} {N i k k' G : Nat} {xs : List Int} {w0 w w1 : World} (h : BI l N i k G xs w0 w) (hb : Below w.heap.size w w1) (hG : w0.heap.size ≤ G) (hi : i + 1 < N) (h' : best l (i + 1) k') : BI l N (i + 1) k' G (xs.set (i + 1) (k' : Int)) w0 (w1.setCell ⟨G, i + 1, none⟩ (.int .i64 (k' : Int))) := by
  refine ⟨(h.r.below hb).set _, by rw [List.length_set]; exact h.x, h', fun j h1 h2 => ?_, Below.setCell (tr3 h.w hb) hG _⟩
  by_cases e : j = i + 1
  · subst e
    exact ⟨k', List.getElem?_set_self (by rw [h.x]; exact hi), h'⟩
  · obtain ⟨b, h3, h4⟩ := h.t j h1 (by omega)
    exact ⟨b, by rw [List.getElem?_set_ne (fun h => e h.symm)]; exact h3, h4⟩
set_option maxRecDepth 20000 in
set_option maxHeartbeats 4000000 in
theorem loops_v (a : Option Addr) (n c : Nat) (l : List P2) (w : World) (h : RV 2 enQ w (.slice a n c) l) (hn : n ≤ 6000) :
    Calls Try.prog 17 #[.slice a n c] w fun e w' => ∃ v : Nat, e = .returned (.int .i64 (v : Int)) ∧ RL l v ∧ Below w.heap.size w w' := by
  obtain ⟨hnl, hnc, hcm⟩ := h.len
  unfold maxLen at hcm
  have HR0 := Lib.hid h
  have HNL := Lib.hid hnl
  obtain ⟨N, hN⟩ : ∃ N, n + 1 = N := ⟨_, rfl⟩
  have hw1 : IntKind.i64.wrap ((n : Int) + 1) = (N : Int) := by rw [IntKind.wrap_i64]; omega
  have hw2 : (n : Int) + 1 = (N : Int) := by omega
  have hmk := fun w kl kc => run_make_cells Try.prog 29 3 (.int .i64 0) 1 8 Try.underlying29 (by kernel_rfl) kl kc N (by omega) (by omega) w
  obtain ⟨W, hW⟩ : ∃ W, w.alloc (.cells (madeCells #[Value.int .i64 0] N) 3) = W := ⟨_, rfl⟩
  obtain ⟨G, hG⟩ : ∃ G, w.heap.size = G := ⟨_, rfl⟩
  have hG0 : RowI W G (List.replicate N 0) := by
    unfold RowI
    rw [← hW, ← hG, made]
    exact ro.heap_new _ _
  have hbW : Below w.heap.size w W := by rw [← hW]; go_grown
  have HG := Lib.hid hG0
  have HBW := Lib.hid hbW
  have HW := Lib.hid hW
  have HGG := Lib.hid hG
  have HNN := Lib.hid hN
  clear h hnl hG0 hbW hW hG hN
  go_enter Try.func17, Try.ntmps17
  by_cases hn0 : n = 0
  · subst hn0
    have hNe : 0 < N := by have := HNN.out; omega
    have hNI : (0 : Int) < (N : Int) := by omega
    have hmk1 : ∀ w, (Instr.makeSlice 29 (.int .i64 1) (.int .i64 1)).run Try.prog w = .ok (.slice (some ⟨w.heap.size, 0, none⟩) N N) (w.alloc (.cells (madeCells #[Value.int .i64 0] N) 3)) := fun w => by
      have := hmk w .i64 .i64
      rw [Nat.mul_one] at this
      rwa [show (N : Int) = 1 by omega] at this
    clear hmk
    have g0 : W.cell? ⟨G, 0, none⟩ = some (.int .i64 0) := HG.out.cell (by rw [List.getElem?_replicate, if_pos hNe])
    have ol := HG.out.lt
    go_upto_block 0 with (fail)
    rw [HW.out, HGG.out]
    clear HW HGG hmk1 hw1 hw2
    go_wp2_with fail
    go_loopw [4, 5] (fun kv iv wr => kv = .int .i64 0 ∧ iv = .int .i64 1 ∧ Hid (wr = W)) (fun kv iv _ => 0)
    case atStart => exact ⟨rfl, rfl, Lib.hid rfl⟩
    case round =>
      obtain ⟨rfl, rfl, HWW⟩ := hrel
      obtain rfl := HWW.out
      go_wp2_with fail
      go_ret
      exact ⟨0, rfl, .inl ⟨HNL.out.symm, rfl⟩, HBW.out⟩
  · have hn1 : 1 ≤ n := by omega
    go_upto_block 0 with (fail)
    rw [HW.out, HGG.out]
    have HGB : Hid (w.heap.size ≤ G) := Lib.hid (by rw [HGG.out]; exact Nat.le_refl _)
    clear HW HGG hmk hw1 hw2
    go_wp2_with fail
    go_loopw [4, 5] (fun kv iv wr => ∃ (k i : Nat), 1 ≤ i ∧ i ≤ n ∧ kv = .int .i64 (k : Int) ∧ iv = .int .i64 (i : Int) ∧ Hid (∃ xs, BI l N i k G xs w wr)) (fun kv iv _ => n - (intOf iv).toNat)
    case atStart => exact ⟨0, 1, Nat.le_refl _, hn1, rfl, rfl, Lib.hid ⟨_, HG.out, by rw [List.length_replicate], best_one, fun j h1 h2 => ⟨0, by rw [List.getElem?_replicate, if_pos (by have := HNN.out; omega)]; rfl, by rw [show j = 1 by omega]; exact best_one⟩, HBW.out⟩⟩
    case round =>
      obtain ⟨k, i, hi1, hin, rfl, rfl, HI⟩ := hrel
      obtain ⟨xs, hBI⟩ := HI.out
      by_cases hlt : i < n
      · have hltI : (i : Int) < (n : Int) := by omega
        obtain ⟨x, hx⟩ : ∃ x, l[i]? = some x := ⟨_, List.getElem?_eq_getElem (by rw [← HNL.out]; exact hlt)⟩
        obtain ⟨b, f, rfl, hbl, c0, c1⟩ := RV.two (HR0.out.below hBI.w) i x hx
        obtain ⟨X, HX⟩ : ∃ X, Hid (wr = X) := ⟨_, Lib.hid rfl⟩
        have HBI : Hid (BI l N i k G xs w X) := Lib.hid (by rw [← HX.out]; exact hBI)
        have HLK := Lib.hid (Look.of hBI.b)
        have HXI := Lib.hid hx
        obtain ⟨x1, x2⟩ := x
        have C0 : Hid (∀ w', Below X.heap.size X w' → w'.cell? ⟨b, f + i * 2, none⟩ = some (.int .i64 x1) ∧ w'.cell? ⟨b, f + i * 2 + 1, none⟩ = some (.int .i64 x2)) := Lib.hid (by
          rw [← HX.out]
          exact fun w' hb => ⟨(hb.cell (p := ⟨b, _, none⟩) hbl).trans c0, (hb.cell (p := ⟨b, _, none⟩) hbl).trans c1⟩)
        clear hBI HI hx c0 c1 hbl
        go_wp2_with fail
        go_loopw [4] (fun kv wr' => ∃ (k2 : Nat), kv = .int .i64 (k2 : Int) ∧ Hid (Look l i k2) ∧ Hid (Below X.heap.size X wr')) (fun kv _ => (intOf kv).toNat)
        case atStart => exact ⟨k, rfl, HLK, Lib.hid (by rw [← HX.out]; exact Below.refl _ _)⟩
        case round =>
          obtain ⟨k2, rfl, HLo, HBi⟩ := hrel
          have hk2 : k2 < i := HLo.out.1.1
          obtain ⟨⟨y1, y2⟩, hy⟩ : ∃ y, l[k2]? = some y := ⟨_, List.getElem?_eq_getElem (by rw [← HNL.out]; omega)⟩
          obtain ⟨b', f', e', hbl, d0, d1⟩ := RV.two (HR0.out.below (tr3 HBI.out.w HBi.out)) k2 _ hy
          rw [Option.some.injEq, Addr.mk.injEq] at e'
          obtain ⟨rfl, rfl, _⟩ := e'
          obtain ⟨c0, c1⟩ := C0.out wr HBi.out
          dsimp only at d0 d1
          have HYI := Lib.hid hy
          obtain ⟨v, hv⟩ : ∃ v, (x1 == y1 && x2 == y2) = v := ⟨_, rfl⟩
          have hvi := pk_iff (x := (x1, x2)) (y := (y1, y2)) hv
          have heq := pk_eq x1 x2 y1 y2 v hv
          have hne := pk_ne x1 x2 y1 y2 v hv
          have hkI : (k2 : Int) < (n : Int) := by omega
          have hkn : k2 < n := by omega
          clear hy hv
          have D0 : Hid (∀ w', Below wr.heap.size wr w' → w'.cell? ⟨b, f + k2 * 2, none⟩ = some (.int .i64 y1) ∧ w'.cell? ⟨b, f + k2 * 2 + 1, none⟩ = some (.int .i64 y2)) := Lib.hid (fun w' hb => ⟨(hb.cell (p := ⟨b, _, none⟩) hbl).trans d0, (hb.cell (p := ⟨b, _, none⟩) hbl).trans d1⟩)
          cases v with
          | true =>
            simp only [Bool.not_true] at hne
            have hxy := hvi.1 rfl
            have he : l[k2]? = l[i]? := by rw [HYI.out, HXI.out, hxy]
            have HE := Lib.hid he
            clear hxy he HYI
            by_cases hk0 : k2 = 0
            · subst hk0
              simp only [Nat.zero_mul, Nat.add_zero] at d0 d1 D0
              have HBest : Hid (best l (i + 1) (0 + 1)) := Lib.hid (HLo.out.hit HE.out)
              clear HLo hvi
              go_wp2_with fail
              go_quiet (fail)
              obtain ⟨Wa, hWa⟩ : ∃ Wa, wr.drewN nq = Wa := ⟨_, rfl⟩
              rw [hWa]
              have hba : Below wr.heap.size wr Wa := by rw [← hWa]; exact below_drewN _ _
              have HBa := Lib.hid (tr3 HBi.out hba)
              obtain ⟨c0, c1⟩ := C0.out Wa HBa.out
              obtain ⟨d0, d1⟩ := D0.out Wa hba
              clear hWa hba
              go_wp2_with fail
              go_quiet (fail)
              obtain ⟨Wb, hWb⟩ : ∃ Wb, Wa.drewN nq = Wb := ⟨_, rfl⟩
              rw [hWb]
              have HBb := Lib.hid (tr3 HBa.out (show Below Wa.heap.size Wa Wb by rw [← hWb]; exact below_drewN _ _))
              obtain ⟨ov, hov⟩ : ∃ ov, xs[i + 1]? = some ov := ⟨_, List.getElem?_eq_getElem (by rw [HBI.out.x]; have := HNN.out; omega)⟩
              have o0 := (HBI.out.r.below HBb.out).cell hov
              have of := (HBI.out.r.below HBb.out).frozen (i + 1)
              have ol := (HBI.out.r.below HBb.out).lt
              have hiN : i + 1 < N := by have := HNN.out; omega
              have hiNI : ((i + 1 : Nat) : Int) < (N : Int) := by omega
              have HNX := Lib.hid (HBI.out.next HBb.out HGB.out hiN HBest.out)
              clear hWb hov c0 c1 d0 d1 heq hne
              go_wp2_with fail
              go_roundw
              case rel => exact ⟨(0 + 1), i + 1, by omega, by omega, by go_num, by go_num, Lib.hid ⟨_, HNX.out⟩⟩
              case measure => simp [intOf]; omega
            · skip
              have HBest : Hid (best l (i + 1) (k2 + 1)) := Lib.hid (HLo.out.hit HE.out)
              clear HLo hvi
              have hk0 : (0 : Int) < (k2 : Int) := by omega
              have hk0n : 0 < k2 := by omega
              go_wp2_with fail
              go_quiet (fail)
              obtain ⟨Wa, hWa⟩ : ∃ Wa, wr.drewN nq = Wa := ⟨_, rfl⟩
              rw [hWa]
              have hba : Below wr.heap.size wr Wa := by rw [← hWa]; exact below_drewN _ _
              have HBa := Lib.hid (tr3 HBi.out hba)
              obtain ⟨c0, c1⟩ := C0.out Wa HBa.out
              obtain ⟨d0, d1⟩ := D0.out Wa hba
              clear hWa hba
              go_wp2_with fail
              go_quiet (fail)
              obtain ⟨Wb, hWb⟩ : ∃ Wb, Wa.drewN nq = Wb := ⟨_, rfl⟩
              rw [hWb]
              have HBb := Lib.hid (tr3 HBa.out (show Below Wa.heap.size Wa Wb by rw [← hWb]; exact below_drewN _ _))
              obtain ⟨ov, hov⟩ : ∃ ov, xs[i + 1]? = some ov := ⟨_, List.getElem?_eq_getElem (by rw [HBI.out.x]; have := HNN.out; omega)⟩
              have o0 := (HBI.out.r.below HBb.out).cell hov
              have of := (HBI.out.r.below HBb.out).frozen (i + 1)
              have ol := (HBI.out.r.below HBb.out).lt
              have hiN : i + 1 < N := by have := HNN.out; omega
              have hiNI : ((i + 1 : Nat) : Int) < (N : Int) := by omega
              have HNX := Lib.hid (HBI.out.next HBb.out HGB.out hiN HBest.out)
              clear hWb hov c0 c1 d0 d1 heq hne
              go_wp2_with fail
              go_roundw
              case rel => exact ⟨(k2 + 1), i + 1, by omega, by omega, by go_num, by go_num, Lib.hid ⟨_, HNX.out⟩⟩
              case measure => simp [intOf]; omega
          | false =>
            simp only [Bool.not_false] at hne
            have hnxy : ¬ ((x1, x2) = (y1, y2)) := fun h => by have := hvi.2 h; cases this
            have he : ¬ l[k2]? = l[i]? := fun h => by rw [HYI.out, HXI.out] at h; exact hnxy (Option.some.inj h).symm
            have HE := Lib.hid he
            clear hnxy he HYI
            by_cases hk0 : k2 = 0
            · subst hk0
              simp only [Nat.zero_mul, Nat.add_zero] at d0 d1 D0
              have HBest : Hid (best l (i + 1) 0) := Lib.hid (HLo.out.miss HE.out)
              clear HLo hvi
              go_wp2_with fail
              go_quiet (fail)
              obtain ⟨Wa, hWa⟩ : ∃ Wa, wr.drewN nq = Wa := ⟨_, rfl⟩
              rw [hWa]
              have hba : Below wr.heap.size wr Wa := by rw [← hWa]; exact below_drewN _ _
              have HBa := Lib.hid (tr3 HBi.out hba)
              obtain ⟨c0, c1⟩ := C0.out Wa HBa.out
              obtain ⟨d0, d1⟩ := D0.out Wa hba
              clear hWa hba
              go_wp2_with fail
              go_quiet (fail)
              obtain ⟨Wb, hWb⟩ : ∃ Wb, Wa.drewN nq = Wb := ⟨_, rfl⟩
              rw [hWb]
              have HBb := Lib.hid (tr3 HBa.out (show Below Wa.heap.size Wa Wb by rw [← hWb]; exact below_drewN _ _))
              obtain ⟨ov, hov⟩ : ∃ ov, xs[i + 1]? = some ov := ⟨_, List.getElem?_eq_getElem (by rw [HBI.out.x]; have := HNN.out; omega)⟩
              have o0 := (HBI.out.r.below HBb.out).cell hov
              have of := (HBI.out.r.below HBb.out).frozen (i + 1)
              have ol := (HBI.out.r.below HBb.out).lt
              have hiN : i + 1 < N := by have := HNN.out; omega
              have hiNI : ((i + 1 : Nat) : Int) < (N : Int) := by omega
              have HNX := Lib.hid (HBI.out.next HBb.out HGB.out hiN HBest.out)
              clear hWb hov c0 c1 d0 d1 heq hne
              go_wp2_with fail
              go_roundw
              case rel => exact ⟨0, i + 1, by omega, by omega, by go_num, by go_num, Lib.hid ⟨_, HNX.out⟩⟩
              case measure => simp [intOf]; omega
            · have hk0I : (0 : Int) < (k2 : Int) := by omega
              have hk0n : 0 < k2 := by omega
              obtain ⟨bb, hbx, hbb⟩ := HBI.out.t k2 (by omega) (by omega)
              have HLN := Lib.hid (HLo.out.less hbb HE.out)
              have hbk : bb < k2 := hbb.1.1
              have HBR := Lib.hid hbx
              have hkN : k2 < N := by have := HNN.out; omega
              have hkNI : (k2 : Int) < (N : Int) := by omega
              clear hbx hbb HLo hvi
              go_wp2_with fail
              go_quiet (fail)
              obtain ⟨Wa, hWa⟩ : ∃ Wa, wr.drewN nq = Wa := ⟨_, rfl⟩
              rw [hWa]
              have HBa := Lib.hid (tr3 HBi.out (show Below wr.heap.size wr Wa by rw [← hWa]; exact below_drewN _ _))
              have o0 := (HBI.out.r.below HBa.out).cell HBR.out
              have ol := (HBI.out.r.below HBa.out).lt
              clear hWa c0 c1 d0 d1 heq hne
              go_wp2_with fail
              go_roundw
              case rel => exact ⟨bb, rfl, HLN, HBa⟩
              case measure => simp [intOf]; omega
      · obtain rfl : i = n := by omega
        obtain ⟨bb, hbx, hbb⟩ := hBI.t i hi1 (Nat.le_refl _)
        have hb1 : bb < i := hbb.1.1
        have o0 := hBI.r.cell hbx
        have ol := hBI.r.lt
        have hiN : i < N := by have := HNN.out; omega
        have hiNI : (i : Int) < (N : Int) := by omega
        have hsub : IntKind.i64.wrap ((i : Int) - (bb : Int)) = ((i - bb : Nat) : Int) := by rw [IntKind.wrap_i64]; omega
        have HE : Hid (RL l (i - bb)) := Lib.hid (.inr ⟨bb, by rw [← HNL.out]; exact hbb, by rw [← HNL.out]⟩)
        have HBE := Lib.hid hBI.w
        clear hbx hbb hBI HI
        go_wp2_with fail
        go_ret
        exact ⟨i - bb, rfl, HE.out, HBE.out⟩
end Go.Proofs.Ytokkgfefiblmiaa.rp
