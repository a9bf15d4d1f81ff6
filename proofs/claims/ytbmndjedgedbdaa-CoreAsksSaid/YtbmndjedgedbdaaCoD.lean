/- A core begins (layer 25). -/
import Derived.Test.YtbmndjedgedbdaaCoC
import Derived.Test.YtbmndjedgedbdaaPrE
namespace Go.Proofs.Ytbmndjedgedbdaa.co
open Go.ChangeShapes Go.WideShapes Go.ChangeAt Go.RowKit
open Go.Proofs.Ytbmndjedgedbdaa.pr
attribute [local go_sem ↓] Go.wp_at_zero Go.wp_at_succ
attribute [local go_sem] Oper.semAt_some
set_option linter.unusedVariables false
set_option linter.unusedSimpArgs false
theorem prE_len {m : Int} {L : List (List I4)} (h : prE m L = 0) : L.length ≤ 1000 := by
  unfold prE at h
  by_cases h1 : cntE m L.length = 0
  · unfold cntE at h1
    split at h1
    · omega
    · split at h1
      · omega
      · split at h1
        · omega
        · omega
  · rw [if_pos h1] at h
    exact absurd h h1
/-- the input. -/
def Inp (w : World) (ya : Option Addr) (yn : Nat) (xs : List Int) : Prop := yn = xs.length ∧ ∀ i, i < yn → ∃ g o, ya = some ⟨g, o, none⟩ ∧ w.cell? ⟨g, o + i, none⟩ = some (.int .i64 (xs.getD i 0))
theorem Inp.below {w w' : World} {ya : Option Addr} {yn : Nat} {xs : List Int} (h : Inp w ya yn xs) (hb : Below w.heap.size w w') : Inp w' ya yn xs :=
  ⟨h.1, fun i hi => by obtain ⟨g, o, e, hc⟩ := h.2 i hi; exact ⟨g, o, e, kc hc hb⟩⟩
def dsN (mn : Nat) (xs : List Int) (k : Nat) : List Int := (List.range mn).map fun i => if i < k then xs.getD i 0 else 0
theorem dsN_len (mn : Nat) (xs : List Int) (k : Nat) : (dsN mn xs k).length = mn := by simp [dsN]
theorem dsN_zero (mn : Nat) (xs : List Int) : dsN mn xs 0 = List.replicate mn 0 := by
  unfold dsN
  apply List.ext_getElem?
  intro i
  by_cases h : i < mn <;> simp [h, List.getElem?_replicate]
theorem dsN_succ (mn : Nat) (xs : List Int) (k : Nat) : (dsN mn xs k).set k (xs.getD k 0) = dsN mn xs (k + 1) := by
  unfold dsN
  apply List.ext_getElem?
  intro i
  rw [List.getElem?_set]
  by_cases h : i < mn
  · by_cases e : k = i
    · subst e; simp [h]
    · rw [if_neg e]
      simp only [List.getElem?_map, List.getElem?_range h, Option.map_some, Option.some.injEq]
      by_cases e2 : i < k
      · rw [if_pos e2, if_pos (by omega)]
      · rw [if_neg e2, if_neg (by omega)]
  · simp [h]
    omega
theorem s9b {Pq C Sw cn : Nat} {a b d o : Int} {f l : Bool} {w w' : World} (h : w.cell? ⟨Pq, 0, none⟩ = some (.int .i64 a) ∧ w.cell? ⟨Pq, 1, none⟩ = some (.int .i64 b) ∧ w.cell? ⟨Pq, 2, none⟩ = some (.int .i64 (cn : Int)) ∧ w.cell? ⟨Pq, 3, none⟩ = some (.int .i64 d) ∧ w.cell? ⟨Pq, 4, none⟩ = some (.int .i64 o) ∧ w.cell? ⟨Pq, 5, none⟩ = some (.bool f) ∧ w.cell? ⟨Pq, 6, none⟩ = some (.bool l) ∧ w.cell? ⟨C, 8, none⟩ = some (.pointer (some ⟨Sw, 0, none⟩))) (hb : Below w.heap.size w w') : w'.cell? ⟨Pq, 0, none⟩ = some (.int .i64 a) ∧ w'.cell? ⟨Pq, 1, none⟩ = some (.int .i64 b) ∧ w'.cell? ⟨Pq, 2, none⟩ = some (.int .i64 (cn : Int)) ∧ w'.cell? ⟨Pq, 3, none⟩ = some (.int .i64 d) ∧ w'.cell? ⟨Pq, 4, none⟩ = some (.int .i64 o) ∧ w'.cell? ⟨Pq, 5, none⟩ = some (.bool f) ∧ w'.cell? ⟨Pq, 6, none⟩ = some (.bool l) ∧ w'.cell? ⟨C, 8, none⟩ = some (.pointer (some ⟨Sw, 0, none⟩)) := by
  obtain ⟨h0, h1, h2, h3, h4, h5, h6, h7⟩ := h
  exact ⟨kc h0 hb, kc h1 hb, kc h2 hb, kc h3 hb, kc h4 hb, kc h5 hb, kc h6 hb, kc h7 hb⟩
theorem cell_oth {w : World} {B i C j : Nat} {v u : Value} (h : w.cell? ⟨B, i, none⟩ = some v) (hne : B ≠ C) : (w.setCell ⟨C, j, none⟩ u).cell? ⟨B, i, none⟩ = some v := (cell_heap (ro.set_oth w C j B u hne)).trans h
theorem s9s {Pq C Sw cn : Nat} {a b d o : Int} {f l : Bool} {w : World} {u : Value} (hne : Pq ≠ C) (h : w.cell? ⟨Pq, 0, none⟩ = some (.int .i64 a) ∧ w.cell? ⟨Pq, 1, none⟩ = some (.int .i64 b) ∧ w.cell? ⟨Pq, 2, none⟩ = some (.int .i64 (cn : Int)) ∧ w.cell? ⟨Pq, 3, none⟩ = some (.int .i64 d) ∧ w.cell? ⟨Pq, 4, none⟩ = some (.int .i64 o) ∧ w.cell? ⟨Pq, 5, none⟩ = some (.bool f) ∧ w.cell? ⟨Pq, 6, none⟩ = some (.bool l) ∧ w.cell? ⟨C, 8, none⟩ = some (.pointer (some ⟨Sw, 0, none⟩))) : (w.setCell ⟨C, 10, none⟩ u).cell? ⟨Pq, 0, none⟩ = some (.int .i64 a) ∧ (w.setCell ⟨C, 10, none⟩ u).cell? ⟨Pq, 1, none⟩ = some (.int .i64 b) ∧ (w.setCell ⟨C, 10, none⟩ u).cell? ⟨Pq, 2, none⟩ = some (.int .i64 (cn : Int)) ∧ (w.setCell ⟨C, 10, none⟩ u).cell? ⟨Pq, 3, none⟩ = some (.int .i64 d) ∧ (w.setCell ⟨C, 10, none⟩ u).cell? ⟨Pq, 4, none⟩ = some (.int .i64 o) ∧ (w.setCell ⟨C, 10, none⟩ u).cell? ⟨Pq, 5, none⟩ = some (.bool f) ∧ (w.setCell ⟨C, 10, none⟩ u).cell? ⟨Pq, 6, none⟩ = some (.bool l) ∧ (w.setCell ⟨C, 10, none⟩ u).cell? ⟨C, 8, none⟩ = some (.pointer (some ⟨Sw, 0, none⟩)) := by
  obtain ⟨h0, h1, h2, h3, h4, h5, h6, h7⟩ := h
  exact ⟨cell_oth h0 hne, cell_oth h1 hne, cell_oth h2 hne, cell_oth h3 hne, cell_oth h4 hne, cell_oth h5 hne, cell_oth h6 hne, by go_simp⟩
/-- a core that has just begun. -/
structure CoS (w W : World) (a b d o : Int) (cn : Nat) (f l : Bool) (L : List (List I4)) (ws ds : List Int) (C Sw gw Sd gd O Lg St T A Lb qf n4 n6 : Nat) (fv hv bv : Value) (rows : List Value) : Prop where
  hb : Below w.heap.size w W
  ho : W.heap[C]? = some (.cells (ccs a b (cn : Int) d o f l fv (pt Sw) (pt Sd) (pt T) (pt O) (pt Lg) (pt St) 0 0 0) 89 (0, 0))
  op : OP W n4 fv rows L
  hd : StoreAt W Sd gd ds
  hs : W.heap[O]? = some (.cells #[.int .i64 o, .slice none 0 0] 107 (0, 0))
  hl : W.heap[Lg]? = some (.cells #[.slice none 0 0] 110 (0, 0))
  ht : W.heap[St]? = some (.cells zst 61 (0, 0))
  tab : ct.TS a b d w W (fun k => k < n6 ∨ k = T ∨ k = Lb) T Sw gw A Lb cn ws ((List.replicate cn (.pointer none)).set 0 (.pointer (some ⟨qf, 0, none⟩))) 1 hv bv [true] []
  hq : W.heap[qf]? = some (.cells (fr.fcs 0) 51 (0, 0))
  lw : w.heap.size ≤ C ∧ w.heap.size ≤ Sw ∧ w.heap.size ≤ gw ∧ w.heap.size ≤ Sd ∧ w.heap.size ≤ gd ∧ w.heap.size ≤ O ∧ w.heap.size ≤ Lg ∧ w.heap.size ≤ St
  lc : Sw < C ∧ gw < C ∧ Sd < C ∧ gd < C ∧ O < C ∧ Lg < C ∧ St < C
  ln : C < n4 ∧ n4 ≤ n6 ∧ n6 ≤ T ∧ n6 ≤ A ∧ n6 ≤ Lb ∧ n6 ≤ qf
  ne : gd ≠ gw ∧ Sd ≠ Sw ∧ Sd ≠ gw ∧ Sw ≠ gd
set_option maxRecDepth 20000 in
set_option maxHeartbeats 4000000 in
theorem new_v (mn : Nat) (pa : Option Addr) (pn pc : Nat) (L : List (List I4)) (ya : Option Addr) (yn yc : Nat) (xs : List Int) (a b d o : Int) (cn : Nat) (f l : Bool) (R : Nat) (w : World)
    (hP : PM w (.slice pa pn pc) L) (hI : Inp w ya yn xs) (hok : coE (mn : Int) L yn ⟨a, b, (cn : Int), d, o, f, l⟩ = 0) (hR : a * (4 + d) + (cn : Int) * (2 + (b + 1) * 4) = (R : Int)) (hmn : mn ≤ 1048576) :
    Calls Try.prog 8 #[.agg #[.int .i64 (mn : Int), .slice pa pn pc], .slice ya yn yc, .agg #[.int .i64 a, .int .i64 b, .int .i64 (cn : Int), .int .i64 d, .int .i64 o, .bool f, .bool l]] w fun e w' => ∃ C Sw gw Sd gd O Lg St T A Lb qf n4 n6 fv hv bv rows, e = .returned (.tuple #[.pointer (some ⟨C, 0, none⟩), .int .i64 0]) ∧ Hid (CoS w w' a b d o cn f l L ((fl (List.replicate R 0) (a * (4 + d)).toNat 0 (2 + (b + 1) * 4).toNat).set (a * (4 + d)).toNat 1) (dsN mn xs yn) C Sw gw Sd gd O Lg St T A Lb qf n4 n6 fv hv bv rows) := by
  have hokk := hok
  unfold coE at hokk
  have hpr : prE (mn : Int) L = 0 := by
    by_cases h : prE (mn : Int) L = 0
    · exact h
    · rw [if_pos h] at hokk; exact absurd hokk h
  rw [if_neg (by rw [hpr]; simp)] at hokk
  have hOk : Okay a (cn : Int) b d ∧ 0 ≤ o ∧ o ≤ 1000 := by
    by_cases h : ¬ Okay a (cn : Int) b d ∨ o < 0 ∨ 1000 < o
    · rw [if_pos h] at hokk; omega
    · refine ⟨Classical.byContradiction fun h2 => h (.inl h2), ?_, ?_⟩
      · exact Int.not_lt.1 fun h2 => h (.inr (.inl h2))
      · exact Int.not_lt.1 fun h2 => h (.inr (.inr h2))
  rw [if_neg (by rintro (h | h | h); exact h hOk.1; omega; omega)] at hokk
  have hyn : yn ≤ mn := by
    by_cases h : (mn : Int) < (yn : Int)
    · rw [if_pos h] at hokk; omega
    · omega
  clear hokk
  obtain ⟨hnl, hnc, hcm⟩ := hP.len
  have HCK : Hid (∀ W, Below w.heap.size w W → Calls Try.prog 11 #[.agg #[.int .i64 (mn : Int), .slice pa pn pc], .slice ya yn yc, .agg #[.int .i64 a, .int .i64 b, .int .i64 (cn : Int), .int .i64 d, .int .i64 o, .bool f, .bool l]] W fun e' w' => e' = .returned (.int .i64 0) ∧ Below W.heap.size W w') := Lib.hid (fun W hb => ccheck_v mn pa pn pc L ya yn yc ⟨a, b, (cn : Int), d, o, f, l⟩ W (hP.below hb) 0 hok)
  have HP := Lib.hid hP
  have HPR := Lib.hid hpr
  have HI := Lib.hid hI
  have HOK := Lib.hid hOk.1
  have HO0 := Lib.hid hOk.2.1
  have HO1 := Lib.hid hOk.2.2
  have HR := Lib.hid hR
  have HMN := Lib.hid hmn
  have HYN := Lib.hid hyn
  have HMN2 : Hid (mn ≤ 256) := Lib.hid (by
    have h := (prE_0 hpr).1
    unfold cntE at h
    split at h <;> omega)
  have HLL := Lib.hid (prE_len hpr)
  have HNL := Lib.hid hnl
  have HR2 : Hid (R ≤ 1048576) := Lib.hid (by
    obtain ⟨h1, h2, h3, h4, h5, h6, h7, h8⟩ := hOk.1
    have m1 := mul_in (by omega : 0 ≤ a) h2 (by omega : 0 ≤ 4 + d) (by omega)
    have m2 := mul_in2 (by omega : 0 ≤ (cn : Int)) h4 (by omega : 0 ≤ 2 + (b + 1) * 4) (by omega)
    omega)
  have HB1 : Hid (Below w.heap.size w ((w.alloc (.cells #[.int .i64 (mn : Int), .slice pa pn pc] 24)).alloc (.cells #[.int .i64 a, .int .i64 b, .int .i64 (cn : Int), .int .i64 d, .int .i64 o, .bool f, .bool l] 27))) := Lib.hid (by go_grown)
  have HK : Hid (∀ w' : World, Below ((w.alloc (.cells #[.int .i64 (mn : Int), .slice pa pn pc] 24)).alloc (.cells #[.int .i64 a, .int .i64 b, .int .i64 (cn : Int), .int .i64 d, .int .i64 o, .bool f, .bool l] 27)).heap.size ((w.alloc (.cells #[.int .i64 (mn : Int), .slice pa pn pc] 24)).alloc (.cells #[.int .i64 a, .int .i64 b, .int .i64 (cn : Int), .int .i64 d, .int .i64 o, .bool f, .bool l] 27)) w' → w'.heap[w.heap.size]? = some (.cells #[.int .i64 (mn : Int), .slice pa pn pc] 24 (0, 0)) ∧ w'.heap[w.heap.size + 1]? = some (.cells #[.int .i64 a, .int .i64 b, .int .i64 (cn : Int), .int .i64 d, .int .i64 o, .bool f, .bool l] 27 (0, 0))) := Lib.hid (fun w' hb => by
    have h1 := heap_new w (.cells #[.int .i64 (mn : Int), .slice pa pn pc] 24)
    have h2 := heap_new (w.alloc (.cells #[.int .i64 (mn : Int), .slice pa pn pc] 24)) (.cells #[.int .i64 a, .int .i64 b, .int .i64 (cn : Int), .int .i64 d, .int .i64 o, .bool f, .bool l] 27)
    have h3 := bl_blk h1 (show Below (w.alloc (.cells #[.int .i64 (mn : Int), .slice pa pn pc] 24)).heap.size (w.alloc (.cells #[.int .i64 (mn : Int), .slice pa pn pc] 24)) ((w.alloc (.cells #[.int .i64 (mn : Int), .slice pa pn pc] 24)).alloc (.cells #[.int .i64 a, .int .i64 b, .int .i64 (cn : Int), .int .i64 d, .int .i64 o, .bool f, .bool l] 27)) by go_grown)
    refine ⟨bl_blk h3 hb, bl_blk ?_ hb⟩
    rw [show w.heap.size + 1 = (w.alloc (.cells #[.int .i64 (mn : Int), .slice pa pn pc] 24)).heap.size by simp]
    exact h2)
  have HS : Hid (w.heap.size + 2 = ((w.alloc (.cells #[.int .i64 (mn : Int), .slice pa pn pc] 24)).alloc (.cells #[.int .i64 a, .int .i64 b, .int .i64 (cn : Int), .int .i64 d, .int .i64 o, .bool f, .bool l] 27)).heap.size) := Lib.hid (by simp)
  clear hP hI hok hpr hOk hR hmn hnl hnc hcm
  go_enter Try.func8, Try.ntmps8
  go_upto_region 4 with (first | (go_at_call 11; (with_reducible refine (HCK.out _ (by go_grown)).mono ?_); rintro _ w2 ⟨rfl, hb2⟩; obtain ⟨hp2, hq2⟩ := HK.out _ hb2; have HB2 := Lib.hid (bl_tr HB1.out hb2); have HS2 := Lib.hid (HS.out ▸ hb2.size); clear hb2))
  refine reg4_of (P := w.heap.size) (Pq := w.heap.size + 1) R HOK HR HO0 HO1 HMN HR2 ⟨ro.cel hp2 0, ro.cel hq2 0, ro.cel hq2 1, ro.cel hq2 2, ro.cel hq2 3, ro.cel hq2 4, ro.cel hq2 5, ro.cel hq2 6⟩ ?_
  intro v21 v22 v23 v24 v25 v26 v27 v28 v29 v30 v31 v32 v33 v34 v35 W4 C Sw gw Sd gd O Lg St h4
  have H4 := Lib.hid h4
  have H2 : Hid (∀ W, Below w2.heap.size w2 W → W.heap[w.heap.size]? = some (.cells #[.int .i64 (mn : Int), .slice pa pn pc] 24 (0, 0)) ∧ W.heap[w.heap.size + 1]? = some (.cells #[.int .i64 a, .int .i64 b, .int .i64 (cn : Int), .int .i64 d, .int .i64 o, .bool f, .bool l] 27 (0, 0))) := Lib.hid (fun W hb => ⟨bl_blk hp2 hb, bl_blk hq2 hb⟩)
  clear h4 hp2 hq2
  have e1 : W4.cell? ⟨w.heap.size, 1, none⟩ = some (.slice pa pn pc) := ro.cel (H2.out W4 H4.out.hb).1 1
  have HCL : Hid (C < W4.heap.size) := Lib.hid (lt_of_heap H4.out.ho)
  have HCw : Hid (w.heap.size ≤ C) := Lib.hid (by have := H4.out.lc; have := HB2.out.size; omega)
  have HB4 : Hid (Below w.heap.size w W4) := Lib.hid (bl_tr HB2.out H4.out.hb)
  have hpn : pn ≤ 1000 := by have := HLL.out; rw [HNL.out]; exact this
  have HX1 : Hid (∃ fv rows, LX (fun _ => False) W4 C (fun v => ccs a b (cn : Int) d o f l v (pt Sw) (pt Sd) (.pointer none) (pt O) (pt Lg) (pt St) 0 0 0) (L.take 0) fv rows W4) := Lib.hid ⟨.slice none 0 0, [], OP.nil _ _, H4.out.ho, fun _ _ _ _ => rfl, Nat.le_refl _, rfl, rfl, rfl⟩
  go_wp2_with fail
  go_loopw [39] (fun x wr => ∃ k : Nat, k ≤ pn ∧ x = .int .i64 (k : Int) ∧ Hid (∃ fv rows, LX (fun _ => False) W4 C (fun v => ccs a b (cn : Int) d o f l v (pt Sw) (pt Sd) (.pointer none) (pt O) (pt Lg) (pt St) 0 0 0) (L.take k) fv rows wr)) (fun x _ => pn - (intOf x).toNat)
  case atStart => exact ⟨0, Nat.zero_le _, by go_num, HX1⟩
  case round =>
    obtain ⟨k, hk, rfl, HK1⟩ := hrel
    by_cases hlt : k < pn
    · obtain ⟨fv, rows, hX⟩ := HK1.out
      have HX := Lib.hid hX
      have hBw : Below w.heap.size w wr := hX.bel HB4.out HCw.out (fun _ _ h => h)
      obtain ⟨gb, go', ai, ci, rfl, hgl, cr, hrow⟩ := (HP.out.below hBw).row k hlt
      have HROW := Lib.hid hrow
      obtain ⟨code, hcode⟩ : ∃ code, L.getD k [] = code := ⟨_, rfl⟩
      have HCODE := Lib.hid hcode
      rw [hcode] at cr HROW
      obtain ⟨ln, hln⟩ : ∃ ln, code.length = ln := ⟨_, rfl⟩
      rw [hln] at cr HROW
      have HSM : Hid (code.length ≤ 1000000) := Lib.hid (by
        have h1 := fnE_0 (fnR_0 (prE_0 HPR.out).2 k (by rw [← HNL.out]; exact hlt))
        have h2 := h1.1
        rw [HCODE.out] at h2
        unfold lenE at h2
        split at h2
        · omega
        · split at h2 <;> omega)
      have HCLN : Hid (∀ W, Below wr.heap.size wr W → Calls Try.prog 40 #[.slice ai ln ci] W fun e w' => ∃ ua un uc, e = .returned (.slice ua un uc) ∧ OR 4 enI w' W.heap.size 68 (.slice ua un uc) code ∧ Below W.heap.size W w') := Lib.hid (fun W hb => by
        refine (bd.cloneI _ code W (HROW.out.below hb) HSM.out).mono ?_
        rintro e w' ⟨v, rfl, h1, h2⟩
        obtain ⟨a', c', rfl⟩ := OR.form h1
        exact ⟨_, _, _, rfl, h1, h2⟩)
      obtain ⟨fa, fc, rfl, hfo⟩ := op_form hX.op
      obtain ⟨fn, hfn⟩ : ∃ fn, (L.take k).length = fn := ⟨_, rfl⟩
      rw [hfn] at HX hX
      have HFN := Lib.hid hfn
      have c7 : wr.cell? ⟨C, 7, none⟩ = some (.slice fa fn fc) := ro.cel hX.ho 7
      have c7d : wr.drew.cell? ⟨C, 7, none⟩ = some (.slice fa fn fc) := c7
      have d1 : (k : Int) < (pn : Int) := by omega
      have HNX : Hid (∀ w3 v' rows' w5 ua un uc, Below wr.heap.size wr w3 → w3.grownBy w5 (Value.slice fa fn fc).ownBlock → OP w5 W4.heap.size v' (rows ++ [.slice ua un uc]) (L.take k ++ [code]) → rows' = rows ++ [.slice ua un uc] → Hid (∃ fv rows, LX (fun _ => False) W4 C (fun v => ccs a b (cn : Int) d o f l v (pt Sw) (pt Sd) (.pointer none) (pt O) (pt Lg) (pt St) 0 0 0) (L.take (k + 1)) fv rows (w5.setCell ⟨C, 7, none⟩ v'))) := Lib.hid (fun w3 v' rows' w5 ua un uc hb hg ho hr => Lib.hid (by
        refine ⟨v', rows ++ [.slice ua un uc], ?_⟩
        have : L.take (k + 1) = L.take k ++ [code] := by
          rw [List.take_add_one, ← HCODE.out, List.getD_eq_getElem?_getD, List.getElem?_eq_getElem (by rw [← HNL.out]; exact hlt)]
          rfl
        rw [this]
        exact HX.out.push HCL.out (fun v => rfl) hb hg ho))
      clear hX hrow hcode hln hfn hfo
      have HC5 : Hid (∀ w3 w5, Below wr.heap.size wr w3 → w3.grownBy w5 (Value.slice fa fn fc).ownBlock → w5.heap[C]? = some (.cells (ccs a b (cn : Int) d o f l (.slice fa fn fc) (pt Sw) (pt Sd) (.pointer none) (pt O) (pt Lg) (pt St) 0 0 0) 89 (0, 0))) := Lib.hid (fun w3 w5 hb hg => by
        have h3 := HX.out.below hb
        obtain ⟨_, _, _, hown⟩ := op_form h3.op
        exact (hg.block C (Nat.lt_of_lt_of_le HCL.out h3.s) (fun e => by have := (hown C e.symm).1; have := HCL.out; omega)).trans h3.ho)
      have HKL : Hid ((L.take k).length ≤ 100000) := Lib.hid (by have := HLL.out; rw [List.length_take]; omega)
      have HW4 : Hid (W4.heap.size ≤ wr.heap.size) := Lib.hid HX.out.s
      go_wp2_with fail
      go_region_law (first
        | ((refine step_appP rfl _ _ (by rfl) W4.heap.size (.slice fa fn fc) rows (L.take k) ⟨w3.heap.size, 0, none⟩ 1 (.slice ua un uc) code (by rfl) (by rfl) hop4 hu4 hux4 (by rfl) HKL.out hB4 ?_; intro v' w5 hop5 hg5; obtain ⟨va, vc, hve, _⟩ := op_form hop5; obtain ⟨vn, hvn⟩ : ∃ vn, (L.take k ++ [code]).length = vn := ⟨_, rfl⟩; rw [hvn] at hve; clear hvn; subst hve; have hc5 := HC5.out _ _ hbw4 hg5; have c75 : w5.cell? ⟨C, 7, none⟩ = some (.slice fa fn fc) := ro.cel hc5 7; have f75 := ro.frz hc5 7))
        | ((go_simp; (with_reducible refine (HCLN.out _ (ghd (Below.refl _ _))).mono ?_); rintro e w3 ⟨ua, un, uc, rfl, hor3, hb3⟩; have hbw3 := bl_tr (ghd (Below.refl _ wr)) hb3; have c73 := kc c7 hbw3; have hbw4 : Below wr.heap.size wr (w3.alloc (.cells #[.slice ua un uc] 69)) := bl_al hbw3 _; have c74 := kc c7 hbw4; have hop4 := (HX.out.below hbw4).op; have hu4 : (w3.alloc (.cells #[.slice ua un uc] 69)).cell? ⟨w3.heap.size, 0, none⟩ = some (.slice ua un uc) := ro.cel (heap_new w3 _) 0; have hux4 : OR 4 enI (w3.alloc (.cells #[.slice ua un uc] 69)) W4.heap.size 68 (.slice ua un uc) code := or_low (hor3.below (by go_grown)) HW4.out; have hB4 := Nat.le_trans HW4.out hbw4.size)))
      all_goals
        have HF := HNX.out _ _ _ _ _ _ _ hbw4 hg5 hop5 rfl
        clear hop5 hg5 hc5 hop4 hu4 hux4 hB4 hor3 hb3 hbw3 hbw4 c73 c74 c7 c7d HC5 HNX HCLN
        go_wp2_with fail
        go_roundw
        case rel => exact ⟨k + 1, by omega, by go_num, HF⟩
        case measure => simp [intOf]; omega
    · obtain rfl : k = pn := by omega
      obtain ⟨fv0, rows0, hX0⟩ := HK1.out
      rw [List.take_of_length_le (by rw [← HNL.out]; exact Nat.le_refl _)] at hX0
      have HX0 : Hid (∃ fv rows, LX (fun k => k = gd) W4 C (fun v => ccs a b (cn : Int) d o f l v (pt Sw) (pt Sd) (.pointer none) (pt O) (pt Lg) (pt St) 0 0 0) L fv rows wr ∧ StoreAt wr Sd gd (dsN mn xs 0)) := Lib.hid (by
        refine ⟨fv0, rows0, hX0.mono (fun _ h => h.elim), ?_⟩
        rw [dsN_zero]
        have hd := H4.out.hd
        have hc := H4.out.hc
        have hl := HCL.out
        exact ⟨(hX0.k Sd (by omega) (by omega) (fun h => h)).trans hd.1, (hX0.k gd (by omega) (by omega) (fun h => h)).trans hd.2.1, hd.2.2⟩)
      have HGD : Hid (gd < W4.heap.size ∧ gd ≠ C) := Lib.hid (by have := H4.out.hc; have := HCL.out; omega)
      have hyn2 : yn ≤ 256 := by have := HYN.out; have := HMN2.out; omega
      clear hX0 HK1 hk hlt
      go_wp2_with fail
      go_loopw [57] (fun x wr => ∃ k : Nat, k ≤ yn ∧ x = .int .i64 (k : Int) ∧ Hid (∃ fv rows, LX (fun k => k = gd) W4 C (fun v => ccs a b (cn : Int) d o f l v (pt Sw) (pt Sd) (.pointer none) (pt O) (pt Lg) (pt St) 0 0 0) L fv rows wr ∧ StoreAt wr Sd gd (dsN mn xs k))) (fun x _ => yn - (intOf x).toNat)
      case atStart => exact ⟨0, Nat.zero_le _, by go_num, HX0⟩
      case round =>
        obtain ⟨k2, hk2, rfl, HK2⟩ := hrel
        obtain ⟨fv, rows, hX, hS⟩ := HK2.out
        have hBw : Below w.heap.size w wr := hX.bel HB4.out HCw.out (fun k hk => by have := H4.out.lw; have := HB2.out.size; omega)
        by_cases hlt2 : k2 < yn
        · obtain ⟨gy, oy, rfl, cy⟩ := (HI.out.below hBw).2 k2 hlt2
          have d2 : (k2 : Int) < (yn : Int) := by omega
          have c9 : wr.cell? ⟨C, 9, none⟩ = some (.pointer (some ⟨Sd, 0, none⟩)) := ro.cel hX.ho 9
          have hkm : k2 < mn := by have := HYN.out; omega
          have HST : Hid (Calls Try.prog 41 #[.pointer (some ⟨Sd, 0, none⟩), .int .i64 (k2 : Int), .int .i64 (xs.getD k2 0)] wr fun e w' => e = .returned (.bool true) ∧ Hid (∃ fv rows, LX (fun k => k = gd) W4 C (fun v => ccs a b (cn : Int) d o f l v (pt Sw) (pt Sd) (.pointer none) (pt O) (pt Lg) (pt St) 0 0 0) L fv rows w' ∧ StoreAt w' Sd gd (dsN mn xs (k2 + 1)))) := Lib.hid (by
            refine (store_in Sd gd (dsN mn xs k2) k2 (xs.getD k2 0) wr hS (by rw [dsN_len]; exact hkm) (by rw [dsN_len]; exact HMN.out)).mono ?_
            rintro e w' ⟨rfl, rfl⟩
            refine ⟨rfl, Lib.hid ⟨fv, rows, hX.put HCL.out HGD.out.1 rfl HGD.out.2 _ _, ?_⟩⟩
            have := hS.set k2 (xs.getD k2 0)
            rw [dsN_succ] at this
            exact this)
          obtain ⟨xk, hxk⟩ : ∃ xk, xs.getD k2 0 = xk := ⟨_, rfl⟩
          rw [hxk] at HST cy
          clear hX hS hBw hxk
          go_wp2_with (go_at_call 41; (with_reducible refine HST.out.mono ?_); rintro _ w3 ⟨rfl, HF⟩)
          go_roundw
          case rel => exact ⟨k2 + 1, by omega, by go_num, HF⟩
          case measure => simp [intOf]; omega
        · obtain rfl : k2 = yn := by omega
          have HX := Lib.hid hX
          have HS9 := Lib.hid hS
          have HBW := Lib.hid hBw
          have HSW : Hid (StoreAt wr Sw gw (List.replicate R 0)) := Lib.hid (by
            have hw := H4.out.hw
            have hc := H4.out.hc
            have hl := HCL.out
            have hlw := H4.out.lw
            exact ⟨(hX.k Sw (by omega) (by omega) (fun h => by omega)).trans hw.1, (hX.k gw (by omega) (by omega) (fun h => by omega)).trans hw.2.1, hw.2.2⟩)
          have HPQ : Hid (w.heap.size + 1 ≠ C) := Lib.hid (by have := H4.out.lc; have := HS2.out; omega)
          have h0 : wr.heap[w.heap.size + 1]? = some (.cells #[.int .i64 a, .int .i64 b, .int .i64 (cn : Int), .int .i64 d, .int .i64 o, .bool f, .bool l] 27 (0, 0)) := by
            have h := (H2.out W4 H4.out.hb).2
            have hlt := lt_of_heap h
            have hlw := H4.out.lw
            have hs2 := HS2.out
            exact (hX.k _ hlt HPQ.out (fun e => by omega)).trans h
          have hS0 : wr.drew.cell? ⟨w.heap.size + 1, 0, none⟩ = some (.int .i64 a) ∧ wr.drew.cell? ⟨w.heap.size + 1, 1, none⟩ = some (.int .i64 b) ∧ wr.drew.cell? ⟨w.heap.size + 1, 2, none⟩ = some (.int .i64 (cn : Int)) ∧ wr.drew.cell? ⟨w.heap.size + 1, 3, none⟩ = some (.int .i64 d) ∧ wr.drew.cell? ⟨w.heap.size + 1, 4, none⟩ = some (.int .i64 o) ∧ wr.drew.cell? ⟨w.heap.size + 1, 5, none⟩ = some (.bool f) ∧ wr.drew.cell? ⟨w.heap.size + 1, 6, none⟩ = some (.bool l) ∧ wr.drew.cell? ⟨C, 8, none⟩ = some (.pointer (some ⟨Sw, 0, none⟩)) := ⟨ro.cel h0 0, ro.cel h0 1, ro.cel h0 2, ro.cel h0 3, ro.cel h0 4, ro.cel h0 5, ro.cel h0 6, ro.cel hX.ho 8⟩
          have c10 : wr.cell? ⟨C, 10, none⟩ = some (.pointer none) := ro.cel hX.ho 10
          have HSZ : Hid (w.heap.size ≤ wr.heap.size) := Lib.hid hBw.size
          have hcn : cn ≤ 256 := by have := HOK.out; unfold Okay at this; omega
          clear hX hS hBw h0 HK2 hk2 hlt2
          go_wp2_with fail
          go_region_held3 (fun w' => w'.cell? ⟨w.heap.size + 1, 0, none⟩ = some (.int .i64 a) ∧ w'.cell? ⟨w.heap.size + 1, 1, none⟩ = some (.int .i64 b) ∧ w'.cell? ⟨w.heap.size + 1, 2, none⟩ = some (.int .i64 (cn : Int)) ∧ w'.cell? ⟨w.heap.size + 1, 3, none⟩ = some (.int .i64 d) ∧ w'.cell? ⟨w.heap.size + 1, 4, none⟩ = some (.int .i64 o) ∧ w'.cell? ⟨w.heap.size + 1, 5, none⟩ = some (.bool f) ∧ w'.cell? ⟨w.heap.size + 1, 6, none⟩ = some (.bool l) ∧ w'.cell? ⟨C, 8, none⟩ = some (.pointer (some ⟨Sw, 0, none⟩))) (first | (with_reducible assumption) | (with_reducible exact s9s HPQ.out hS77))
            (first
              | (go_at_call 37; (with_reducible refine (plan_v a b (cn : Int) d o f l _).mono ?_); rintro e w72 ⟨rfl, hb72⟩; have hS72 := s9b hS0 hb72; have hbw72 := bl_tr (ghd (Below.refl _ wr)) hb72)
              | (go_at_call 42; (with_reducible refine (fr.tab_new Sw a b d cn HOK hcn w.heap.size _ (Nat.le_trans HSZ.out hbw72.size)).mono ?_); rintro e w77 ⟨T, A, Lb, rfl, hT, hL, hA, hdd, hb77⟩; have hS77 := s9b hS72 hb77; have hbw77 := bl_tr hbw72 hb77; have k10 := kc c10 hbw77; have f10 := ro.frz (HX.out.below hbw77).ho 10))
          obtain ⟨n6, hn6⟩ : ∃ n6, w72.heap.size = n6 := ⟨_, rfl⟩
          rw [hn6] at hdd hA
          have hbw6 : W4.heap.size ≤ n6 := by rw [← hn6]; exact Nat.le_trans HX.out.s hbw72.size
          have hX7 := HX.out.below hbw77
          have hCl := HCL.out
          have hlw := H4.out.lw
          have hlo := H4.out.lo
          have hhc := H4.out.hc
          have hs2 := HB2.out.size
          have HXC : Hid (LX (fun k => k = gd) W4 C (fun v => ccs a b (cn : Int) d o f l v (pt Sw) (pt Sd) (pt T) (pt O) (pt Lg) (pt St) 0 0 0) L fv rows (w77.setCell ⟨C, 10, none⟩ (.pointer (some ⟨T, 0, none⟩)))) := Lib.hid (hX7.cell hCl 10 _ rfl)
          obtain ⟨W7, hW7⟩ : ∃ W7, w77.setCell ⟨C, 10, none⟩ (.pointer (some ⟨T, 0, none⟩)) = W7 := ⟨_, rfl⟩
          have hoth : ∀ q, q ≠ C → W7.heap[q]? = w77.heap[q]? := fun q hq => by rw [← hW7]; exact ro.set_oth w77 C 10 q _ hq
          have hsz7 : W7.heap.size = w77.heap.size := by rw [← hW7]; exact ro.set_size w77 C 10 _
          rw [hW7] at HXC ⊢
          have HSW7 : Hid (StoreAt W7 Sw gw (List.replicate R 0)) := Lib.hid (by
            have h := HSW.out.below hbw77
            exact ⟨(hoth Sw (by omega)).trans h.1, (hoth gw (by omega)).trans h.2.1, h.2.2⟩)
          have HSD7 : Hid (StoreAt W7 Sd gd (dsN mn xs k2)) := Lib.hid (by
            have h := HS9.out.below hbw77
            exact ⟨(hoth Sd (by omega)).trans h.1, (hoth gd (by omega)).trans h.2.1, h.2.2⟩)
          have HB7 : Hid (Below w.heap.size w W7) := Lib.hid (HXC.out.bel HB4.out HCw.out (fun q hq => by omega))
          have HTS : Hid (ct.TS a b d w W7 (fun q => q < n6 ∨ q = T ∨ q = Lb) T Sw gw A Lb cn (List.replicate R 0) (List.replicate cn (.pointer none)) 0 (.slice none 0 0) (.slice none 0 0) [] []) := Lib.hid ⟨⟨HSW7.out, HB7.out, by omega⟩, (hoth T (by omega)).trans hT, (hoth Lb (by omega)).trans hL, fr.as_keep hA ⟨by rw [hsz7]; exact Nat.le_refl _, fun q _ hq => hoth q hq⟩ (.inl (by omega)), by simp, .inr (.inl rfl), .inr (.inr rfl), .inl (by omega), .inl (by omega), by omega, by omega, fun e => hdd.2.2.2.2.1 e.symm, by omega, by omega, by omega⟩
          have HWR : Hid (∀ q, W4.heap.size ≤ q → q < wr.heap.size → W7.heap[q]? = wr.heap[q]? ∧ q < n6) := Lib.hid (fun q h1 h2 => ⟨(hoth q (by omega)).trans (hbw77.block q h2), by rw [← hn6]; exact Nat.lt_of_lt_of_le h2 hbw72.size⟩)
          have HN6 : Hid (C < W4.heap.size ∧ W4.heap.size ≤ n6 ∧ n6 ≤ T ∧ n6 ≤ A ∧ n6 ≤ Lb ∧ n6 ≤ W7.heap.size) := Lib.hid ⟨hCl, hbw6, hdd.1, hdd.2.1, hdd.2.2.1, by rw [hsz7, ← hn6]; exact hb77.size⟩
          have k10' : W7.cell? ⟨C, 10, none⟩ = some (.pointer (some ⟨T, 0, none⟩)) := ro.cel HXC.out.ho 10
          have k10d : W7.drew.cell? ⟨C, 10, none⟩ = some (.pointer (some ⟨T, 0, none⟩)) := k10'
          obtain ⟨F, hF⟩ : ∃ F : Nat, (a * (4 + d)).toNat = F := ⟨_, rfl⟩
          obtain ⟨r, hr⟩ : ∃ r : Nat, (2 + (b + 1) * 4).toNat = r := ⟨_, rfl⟩
          have HFR : Hid (a * (4 + d) + (((0 : Nat) : Int) + 1 - 1) * (2 + (b + 1) * 4) = (F : Int) ∧ 2 + (b + 1) * 4 = (r : Int) ∧ F + r ≤ R ∧ 1 ≤ r ∧ 1 ≤ cn) := Lib.hid (by
            have hO := HOK.out
            unfold Okay at hO
            obtain ⟨o1, o2, o3, o4, o5, o6, o7, o8⟩ := hO
            have m1 := mul_in (by omega : 0 ≤ a) o2 (by omega : 0 ≤ 4 + d) (by omega)
            have hR := HR.out
            have hr2 : 2 + (b + 1) * 4 = (r : Int) := by omega
            have hge : (r : Int) ≤ (cn : Int) * (2 + (b + 1) * 4) := by
              rw [hr2]
              have : (1 : Int) * (r : Int) ≤ (cn : Int) * (r : Int) := Int.mul_le_mul_of_nonneg_right (by omega) (by omega)
              omega
            refine ⟨by simp; omega, hr2, by omega, by omega, by omega⟩)
          have HPF : Hid (∀ w8, Below W7.heap.size W7 w8 → Calls Try.prog 43 #[.pointer (some ⟨T, 0, none⟩), (.agg #[.int .i64 1, .int .i64 0, .int .i64 0, .int .i64 0, .int .i64 0, .int .i64 0, .int .i64 0, .int .i64 0, .int .i64 0, .int .i64 0, .int .i64 0, .int .i64 0, .bool false, .bool false, .int .i64 0, .int .i64 0, .int .i64 0, .int .i64 0, .int .i64 0])] w8 fun e w9 => e = .returned (.tuple #[.int .i64 1, .bool true]) ∧ Hid (∃ hv bv qf, CoS w w9 a b d o cn f l L ((fl (List.replicate R 0) F 0 r).set F 1) (dsN mn xs k2) C Sw gw Sd gd O Lg St T A Lb qf W4.heap.size n6 fv hv bv rows)) := Lib.hid (fun w8 hb8 => by
            have hF2 := HFR.out
            have hn := HN6.out
            refine (ct.make_yes 0 0 [false] [] 1 a b d w w8 _ T Sw gw A Lb cn (List.replicate R 0) (List.replicate cn (.pointer none)) 0 (.slice none 0 0) (.slice none 0 0) [] [] (HTS.out.below hb8) HOK F r (Lib.hid hF2.1) (Lib.hid hF2.2.1) hcn hF2.2.2.2.1 (by rw [List.length_replicate]; exact HR2.out) (by rw [List.length_replicate]; exact hF2.2.2.1) (by omega) (.inr ⟨rfl, by simp; omega, rfl, rfl, rfl⟩) (by simp) (by simp) (by simp) (by simp) (by simp)).mono ?_
            rintro e w9 ⟨hv, bv, qf, rfl, hTS9, hq9, hql, hsame, hsz9⟩
            refine ⟨rfl, Lib.hid ⟨hv, bv, qf, ?_⟩⟩
            have hX8 := HXC.out.below hb8
            have hs8 := hb8.size
            have hs9 : ∀ q, q < n6 → q ≠ gw → w9.heap[q]? = w8.heap[q]? := fun q h1 h2 => hsame q (.inl h1) (by omega) h2
            have hlow : ∀ q, q < n6 → q ≠ gw → q < W7.heap.size → w9.heap[q]? = W7.heap[q]? := fun q h1 h2 h3 => (hs9 q h1 h2).trans (hb8.block q h3)
            have hX9 : ∀ q, q < W4.heap.size → q ≠ C → q ≠ gd → q ≠ gw → w9.heap[q]? = W4.heap[q]? := fun q h1 h2 h3 h4 => (hs9 q (by omega) h4).trans (hX8.k q h1 h2 h3)
            have hO4 := H4.out.hs
            have hL4 := H4.out.hl
            have hT4 := H4.out.ht
            have hne : ∀ (q g : Nat) (cs : Array Value) (t : TypeId) (zs : List Int), W4.heap[q]? = some (.cells cs t (0, 0)) → W4.heap[g]? = some (.cells (zs.map (Value.int .i64)).toArray 3 (0, 0)) → t ≠ 3 → q ≠ g := fun q g cs t zs h1 h2 h3 e => by
              rw [e, h2] at h1
              injection h1 with h1
              injection h1 with _ h1 _
              exact h3 h1.symm
            have hgw4 := H4.out.hw.2.1
            have hgd4 := H4.out.hd.2.1
            refine ⟨hTS9.j.2.1, (hs9 C (by omega) (by omega)).trans hX8.ho, op_same HX.out.op (fun q h1 h2 => ?_), ?_, (hX9 O (by omega) (by omega) (hne _ _ _ _ _ hO4 hgd4 (by decide)) (hne _ _ _ _ _ hO4 hgw4 (by decide))).trans hO4, (hX9 Lg (by omega) (by omega) (hne _ _ _ _ _ hL4 hgd4 (by decide)) (hne _ _ _ _ _ hL4 hgw4 (by decide))).trans hL4, (hX9 St (by omega) (by omega) (hne _ _ _ _ _ hT4 hgd4 (by decide)) (hne _ _ _ _ _ hT4 hgw4 (by decide))).trans hT4, hTS9, hq9, by omega, by omega, by omega, by omega⟩
            · obtain ⟨h3, h4⟩ := HWR.out q h1 h2
              exact (hlow q h4 (by omega) (by omega)).trans h3
            · have h := HSD7.out.below hb8
              exact ⟨(hs9 Sd (by omega) (by omega)).trans h.1, (hs9 gd (by omega) (by omega)).trans h.2.1, h.2.2⟩)
          have HFE := Lib.hid hF
          have HRE := Lib.hid hr
          clear hT hL hA hdd hb77 hS77 hbw77 k10 f10 hS72 hb72 hbw72 hn6 hbw6 hX7 hCl hlw hlo hhc hs2 hW7 hoth hsz7 HTS HSW7 HSD7 HXC c10 hS0 hF hr
          go_wp2_with fail
          go_region_held3 (fun w' => w'.cell? ⟨C, 10, none⟩ = some (.pointer (some ⟨T, 0, none⟩))) (first | (with_reducible assumption) | (with_reducible exact True.intro))
            (first
              | (go_at_call 19; (with_reducible refine (fr.root_of _).mono ?_); rintro e w84 ⟨rfl, hb84⟩; have k84 := kc k10d hb84; have hbw84 := bl_tr (ghd (Below.refl _ W7)) hb84)
              | (go_at_call 43; (with_reducible refine (HPF.out _ hbw84).mono ?_); rintro e w85 ⟨rfl, hFin⟩; have k85 : w85.cell? ⟨C, 10, none⟩ = some (.pointer (some ⟨T, 0, none⟩)) := by obtain ⟨_, _, _, hc⟩ := hFin.out; exact ro.cel hc.ho 10))
          go_wp2_with fail
          go_ret2
          obtain ⟨hv, bv, qf, hc⟩ := hFin.out
          rw [← HFE.out, ← HRE.out] at hc
          exact ⟨C, Sw, gw, Sd, gd, O, Lg, St, T, A, Lb, qf, _, _, fv, hv, bv, rows, rfl, Lib.hid hc⟩
end Go.Proofs.Ytbmndjedgedbdaa.co
