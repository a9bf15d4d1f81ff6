/- The script that is in short: the program (layer 43). -/
import Derived.Test.YtokkgfefiblmiaaRpC
namespace Go.Proofs.Ytokkgfefiblmiaa.rp
open Go.ChangeShapes Go.WideShapes Go.ChangeAt Go.RowKit
open Go.Proofs.Ytokkgfefiblmiaa.bits
set_option linter.unusedVariables false
set_option linter.unusedSimpArgs false
theorem OR.blk {α : Type} {k : Nat} {en : α → List Value} {w w' : World} {B e : Nat} {v : Value} {xs : List α} (h : OR k en w B e v xs) (hb : ∀ g, B ≤ g → g < w.heap.size → w'.heap[g]? = w.heap[g]?) : OR k en w' B e v xs := by
  obtain ⟨hl, h1 | ⟨g, cap, cur, h1, h2, hh, h3⟩⟩ := h
  · exact ⟨hl, .inl h1⟩
  · exact ⟨hl, .inr ⟨g, cap, cur, h1, h2, (hb g h2 (Array.getElem?_eq_some_iff.1 hh).1).trans hh, h3⟩⟩
theorem cut1 (a : UInt8) (M : List UInt8) : (⟨(a :: M).toArray⟩ : ByteArray).extract 1 (⟨(a :: M).toArray⟩ : ByteArray).size = ⟨M.toArray⟩ := by
  apply Go.WideShapes.bytes_inj
  rw [Go.Lib.extract_to_end]
  rfl
theorem numL (C : Nat) (a : UInt8) (M : List UInt8) (w : World) (hC : CutAt w C ⟨(a :: M).toArray⟩ false) (hm : M.length ≤ 5000) :
    Calls Try.prog 33 #[.pointer (some ⟨C, 0, none⟩), .int .i64 1] w fun e w' => e = .returned (.int .i64 (a.toNat : Int)) ∧ CutAt w' C ⟨M.toArray⟩ false ∧ w' = w.setCell ⟨C, 0, none⟩ (.string ⟨M.toArray⟩) := by
  have hs : (⟨(a :: M).toArray⟩ : ByteArray).size = M.length + 1 := by rw [str_size]; rfl
  refine (num_ok C _ 1 1 w hC (Lib.hid (by decide)) (by omega) (by omega) (by rw [hs]; omega) (by rw [hs]; omega)).mono ?_
  rintro e w' ⟨rfl, h1, rfl⟩
  rw [cut1] at h1 ⊢
  refine ⟨?_, h1, rfl⟩
  have : ofB ((⟨(a :: M).toArray⟩ : ByteArray).data.toList.take 1) = a.toNat := by
    show ofB [a] = _
    simp [ofB]
  rw [this]
/-- what is read so far, and what is left. -/
structure PU (w wr : World) (C : Nat) (M : List UInt8) (v : Value) (xs : List P2) : Prop where
  c : CutAt wr C ⟨M.toArray⟩ false
  o : OR 2 enQ wr (C + 1) 60 v xs
  b : Below w.heap.size w wr
  h : w.heap.size ≤ C
theorem PU.below {w wr w' : World} {C : Nat} {M : List UInt8} {v : Value} {xs : List P2} (h : PU w wr C M v xs) (hb : Below wr.heap.size wr w') : PU w w' C M v xs := ⟨h.c.below hb, OR.below h.o hb, tr3 h.b hb, h.h⟩
theorem PU.num {w wr : World} {C : Nat} {M M' : List UInt8} {v : Value} {xs : List P2} (h : PU w wr C M v xs) (hc : CutAt (wr.setCell ⟨C, 0, none⟩ (.string ⟨M'.toArray⟩)) C ⟨M'.toArray⟩ false) : PU w (wr.setCell ⟨C, 0, none⟩ (.string ⟨M'.toArray⟩)) C M' v xs :=
  ⟨hc, OR.blk h.o (fun g h1 _ => ro.set_oth wr C 0 g _ (by omega)), Below.setCell h.b h.h _, h.h⟩
theorem PU.app {w wr w' : World} {C : Nat} {M : List UInt8} {v v' : Value} {xs xs' : List P2} (h : PU w wr C M v xs) (hg : wr.grownBy w' v.ownBlock) (ho : OR 2 enQ w' (C + 1) 60 v' xs') : PU w w' C M v' xs' := by
  have hne : ∀ q, q ≤ C → some q ≠ v.ownBlock := fun q hq e => by have := (h.o.lt q e.symm).1; omega
  refine ⟨(hg.block C h.c.lt (hne C (Nat.le_refl _))).trans h.c, ho, h.b.trans ⟨hg.os, hg.tape, hg.output, hg.size, fun q hq => hg.block q (by have := h.b.size; omega) (hne q (by have := h.h; omega))⟩, h.h⟩
theorem num_pu {w wr : World} {C : Nat} {a : UInt8} {M : List UInt8} {v : Value} {xs : List P2} (h : PU w wr C (a :: M) v xs) (hm : M.length ≤ 5000) :
    Calls Try.prog 33 #[.pointer (some ⟨C, 0, none⟩), .int .i64 1] wr fun e w' => e = .returned (.int .i64 (a.toNat : Int)) ∧ Hid (PU w w' C M v xs) ∧ Hid (∀ g, g ≠ C → w'.heap[g]? = wr.heap[g]?) := by
  refine (numL C a M wr h.c hm).mono ?_
  rintro e w' ⟨rfl, hc, rfl⟩
  exact ⟨rfl, Lib.hid (h.num hc), Lib.hid (fun g hg => ro.set_oth wr C 0 g _ hg)⟩
def szAt (C : Nat) (w : World) : Nat := match w.cell? ⟨C, 0, none⟩ with
  | some (.string s) => s.size
  | _ => 0
theorem szAt_of {C : Nat} {w : World} {M : List UInt8} (h : CutAt w C ⟨M.toArray⟩ false) : szAt C w = M.length := by
  unfold szAt
  rw [h.facts.1]
  exact str_size M
set_option maxRecDepth 20000 in
set_option maxHeartbeats 4000000 in
theorem unpack_v (L : List UInt8) (w : World) (hn : L.length ≤ 2200) :
    Calls Try.prog 14 #[.string ⟨L.toArray⟩] w (UpP w L) := by
  have hsz := str_size L
  have HY : Hid (∀ v w', L.length % 3 = 0 → Below w.heap.size w w' → OR 2 enQ w' w.heap.size 60 v (up L) → UpP w L (.returned (.tuple #[v, .int .i64 0])) w') := Lib.hid (fun v w' h1 h2 h3 => up_yes h1 h2 h3)
  have HNo : Hid (∀ w', ¬ L.length % 3 = 0 → Below w.heap.size w w' → UpP w L (.returned (.tuple #[.slice none 0 0, .int .i64 1])) w') := Lib.hid (fun w' h1 h2 => up_no h1 h2)
  obtain ⟨P, hP⟩ : ∃ P, UpP w L = P := ⟨_, rfl⟩
  rw [hP] at HY HNo ⊢
  clear hP
  obtain ⟨n, hnn⟩ : ∃ n, L.length = n := ⟨_, rfl⟩
  have HNL := Lib.hid hnn
  have hmod : (n : Int).tmod 3 = ((n % 3 : Nat) : Int) := by rw [Int.tmod_eq_emod_of_nonneg (by omega)]; push_cast; rfl
  rw [hnn] at hsz hn HY HNo
  clear hnn
  obtain ⟨r, hr⟩ : ∃ r, n % 3 = r := ⟨_, rfl⟩
  rw [hr] at hmod HY HNo
  by_cases hr0 : r = 0
  · subst hr0
    obtain ⟨T, hT⟩ : ∃ T, n = 3 * T := ⟨n / 3, by omega⟩
    have HT := Lib.hid hT
    have HE : Hid (∀ v w', Below w.heap.size w w' → OR 2 enQ w' w.heap.size 60 v (up L) → P (.returned (.tuple #[v, .int .i64 0])) w') := Lib.hid (fun v w' => HY.out v w' rfl)
    have HNEW := Lib.hid (new_v ⟨L.toArray⟩ w)
    obtain ⟨C, hC⟩ : ∃ C, w.heap.size = C := ⟨_, rfl⟩
    have HC := Lib.hid hC
    clear hr hT HY HNo hC
    go_enter Try.func14, Try.ntmps14
    go_wp2_with fail
    refine HNEW.out.mono ?_
    rintro e w1 ⟨rfl, hc1, hb1⟩
    have HP1 : Hid (PU w w1 C (L.drop (3 * 0)) (.slice none 0 0) []) := Lib.hid ⟨by rw [← HC.out]; exact hc1, OR.nil _ _ _, hb1, by rw [HC.out]; exact Nat.le_refl _⟩
    rw [HC.out]
    clear HNEW hc1 hb1
    go_wp2_with fail
    go_loopw [4] (fun vm wr => ∃ (t : Nat) (va : Option Addr) (vn vc : Nat), t ≤ T ∧ vm = .slice va vn vc ∧ Hid (∃ xs, PU w wr C (L.drop (3 * t)) (.slice va vn vc) xs ∧ xs ++ up (L.drop (3 * t)) = up L ∧ xs.length ≤ 256 * t)) (fun vm wr => szAt C wr)
    case atStart => exact ⟨0, none, 0, 0, Nat.zero_le _, rfl, Lib.hid ⟨[], HP1.out, rfl, Nat.le_refl _⟩⟩
    case round =>
      obtain ⟨t, va, vn, vc, ht, rfl, HX⟩ := hrel
      clear HP1
      obtain ⟨xs, hPU, hxu, hxl⟩ := HX.out
      obtain ⟨i, hi⟩ : ∃ i, 3 * t = i := ⟨_, rfl⟩
      rw [hi] at hxu hPU
      have HI := Lib.hid hi
      have hml := szAt_of hPU.c
      have hdl : (L.drop i).length = n - i := by rw [List.length_drop, HNL.out]
      by_cases hlt : t < T
      · have hin : i + 2 < n := by have := HT.out; omega
        have gat : ∀ j, j < n → L[j]? = some (L.getD j 0) := fun j hj => by rw [List.getD_eq_getElem?_getD, List.getElem?_eq_getElem (by rw [HNL.out]; exact hj)]; rfl
        have gd : ∀ j, j < n → L.drop j = L.getD j 0 :: L.drop (j + 1) := fun j hj => by
          have hl : j < L.length := by rw [HNL.out]; exact hj
          rw [List.drop_eq_getElem_cons hl]
          congr 1
          rw [List.getD_eq_getElem?_getD, List.getElem?_eq_getElem hl]
          rfl
        have hup := up_at (gat i (by omega)) (gat (i + 1) (by omega)) (gat (i + 2) hin)
        rw [gd i (by omega), gd (i + 1) (by omega), gd (i + 1 + 1) hin] at hPU
        obtain ⟨A, hA⟩ : ∃ A, L.getD i 0 = A := ⟨_, rfl⟩
        obtain ⟨Bq, hBq⟩ : ∃ B, L.getD (i + 1) 0 = B := ⟨_, rfl⟩
        obtain ⟨Cq, hCq⟩ : ∃ C, L.getD (i + 2) 0 = C := ⟨_, rfl⟩
        obtain ⟨M, hM⟩ : ∃ M, L.drop (i + 3) = M := ⟨_, rfl⟩
        rw [show i + 1 + 1 = i + 2 from rfl, show i + 2 + 1 = i + 3 from rfl, hA, hBq, hCq, hM] at hPU
        rw [hA, hBq, hCq, hM] at hup
        rw [hup] at hxu
        have hMl : M.length ≤ 2200 := by rw [← hM, List.length_drop, HNL.out]; omega
        have hcl : Cq.toNat < 256 := Cq.toNat_lt
        have HXU := Lib.hid hxu
        have HXL := Lib.hid hxl
        have HM := Lib.hid hM
        have HML : Hid (szAt C wr = M.length + 3) := Lib.hid (by rw [szAt_of hPU.c]; simp)
        have hs3 : (⟨(A :: Bq :: Cq :: M).toArray⟩ : ByteArray).size = M.length + 3 := by rw [str_size]; simp
        have HLF := Lib.hid (left_v C _ false wr hPU.c)
        rw [hs3] at HLF
        obtain ⟨m3, hm3⟩ : ∃ m3, M.length + 3 = m3 := ⟨_, rfl⟩
        rw [hm3] at HLF HML
        have hm3I : (0 : Int) < (m3 : Int) := by omega
        have hm3N : 0 < m3 := by omega
        have HM3 := Lib.hid hm3
        have HN1 := Lib.hid (num_pu hPU (by simp; omega))
        have ht2 : t ≤ 800 := by have := HT.out; omega
        clear hi hxu hxl HX hup gat gd hA hBq hCq hM hPU hml hdl hs3 hm3
        go_wp2_with fail
        refine HLF.out.mono ?_
        rintro e w2 ⟨rfl, rfl⟩
        go_wp2_with fail
        refine HN1.out.mono ?_
        rintro e w3 ⟨rfl, HP3, _⟩
        have HN2 := Lib.hid (num_pu HP3.out (by simp; omega))
        clear HN1 HLF
        go_wp2_with fail
        refine HN2.out.mono ?_
        rintro e w4 ⟨rfl, HP4, _⟩
        obtain ⟨W4, hW4⟩ : ∃ W4, w4.alloc (.cells #[.int .i64 (A.toNat : Int), .int .i64 (Bq.toNat : Int)] 60) = W4 := ⟨_, rfl⟩
        obtain ⟨xb, hxb⟩ : ∃ xb, w4.heap.size = xb := ⟨_, rfl⟩
        have HXB4 : Hid (W4.heap[xb]? = some (.cells #[.int .i64 (A.toNat : Int), .int .i64 (Bq.toNat : Int)] 60 (0, 0))) := Lib.hid (by rw [← hW4, ← hxb]; exact ro.heap_new _ _)
        have HP4' := Lib.hid (HP4.out.below (w' := W4) (by rw [← hW4]; go_grown))
        have HNE : Hid (∀ g, (Value.slice va vn vc).ownBlock = some g → g ≠ xb) := Lib.hid (fun g hg e => by have := (HP4.out.o.lt g hg).2; omega)
        have HCX : Hid (C ≠ xb) := Lib.hid (fun e => by have := HP4.out.c.lt; omega)
        have HN3 := Lib.hid (num_pu HP4'.out (by omega))
        have HW4 := Lib.hid hW4
        have HXB := Lib.hid hxb
        clear HN2 HP3 hW4 hxb
        go_wp2_with fail
        rw [HW4.out, HXB.out]
        refine HN3.out.mono ?_
        rintro e w5 ⟨rfl, HP5, HB5⟩
        have HX5 : Hid (w5.heap[xb]? = some (.cells #[.int .i64 (A.toNat : Int), .int .i64 (Bq.toNat : Int)] 60 (0, 0))) := Lib.hid ((HB5.out xb (fun e => HCX.out e.symm)).trans HXB4.out)
        have HP5' : Hid (PU w w5 C M (.slice va vn vc) (xs ++ List.replicate 0 ((A.toNat : Int), (Bq.toNat : Int)))) := Lib.hid (by rw [List.replicate_zero, List.append_nil]; exact HP5.out)
        obtain ⟨cc, hcc⟩ : ∃ cc, Cq.toNat + 1 = cc := ⟨_, rfl⟩
        have hcI : IntKind.i64.wrap ((Cq.toNat : Int) + 1) = (cc : Int) := by rw [IntKind.wrap_i64]; omega
        have hcI2 : (Cq.toNat : Int) + 1 = (cc : Int) := by omega
        have hc256 : cc ≤ 256 := by omega
        have HCC := Lib.hid hcc
        clear HN3 HP4 HP4' HW4 HXB HXB4 HP5 HB5 hcc
        go_wp2_with fail
        go_loopw [4, 24] (fun vm kv wr' => ∃ (q : Nat) (va : Option Addr) (vn vc : Nat), q ≤ cc ∧ vm = .slice va vn vc ∧ kv = .int .i64 (q : Int) ∧ Hid (PU w wr' C M (.slice va vn vc) (xs ++ List.replicate q ((A.toNat : Int), (Bq.toNat : Int)))) ∧ Hid (wr'.heap[xb]? = some (.cells #[.int .i64 (A.toNat : Int), .int .i64 (Bq.toNat : Int)] 60 (0, 0))) ∧ Hid (∀ g, (Value.slice va vn vc).ownBlock = some g → g ≠ xb)) (fun vm kv _ => cc - (intOf kv).toNat)
        case atStart => exact ⟨0, va, vn, vc, Nat.zero_le _, rfl, rfl, HP5', HX5, HNE⟩
        case round =>
          obtain ⟨q, va2, vn2, vc2, hq, rfl, rfl, HO, HXb, HNe⟩ := hrel
          clear HP5' HX5 HNE
          by_cases hqc : q < cc
          · have hqI : (q : Int) < (cc : Int) := by omega
            have x0 : wr.cell? ⟨xb, 0, none⟩ = some (.int .i64 (A.toNat : Int)) := ro.cel HXb.out 0
            have x1 : wr.cell? ⟨xb, 1, none⟩ = some (.int .i64 (Bq.toNat : Int)) := ro.cel HXb.out 1
            have xl := ro.lt_of HXb.out
            obtain ⟨W6, hW6⟩ : ∃ W6, wr.alloc (.cells #[.int .i64 (A.toNat : Int), .int .i64 (Bq.toNat : Int)] 60) = W6 := ⟨_, rfl⟩
            have HO6 : Hid (PU w (wr.alloc (.cells #[.int .i64 (A.toNat : Int), .int .i64 (Bq.toNat : Int)] 60)) C M (.slice va2 vn2 vc2) (xs ++ List.replicate q ((A.toNat : Int), (Bq.toNat : Int)))) := Lib.hid (HO.out.below (by go_grown))
            have HXb6 : Hid ((wr.alloc (.cells #[.int .i64 (A.toNat : Int), .int .i64 (Bq.toNat : Int)] 60)).heap[xb]? = some (.cells #[.int .i64 (A.toNat : Int), .int .i64 (Bq.toNat : Int)] 60 (0, 0))) := Lib.hid (((show Below wr.heap.size wr (wr.alloc (.cells #[.int .i64 (A.toNat : Int), .int .i64 (Bq.toNat : Int)] 60)) by go_grown).block xb xl).trans HXb.out)
            have HLN : Hid ((xs ++ List.replicate q ((A.toNat : Int), (Bq.toNat : Int))).length ≤ 1000000) := Lib.hid (by rw [List.length_append, List.length_replicate]; have := HXL.out; omega)
            have HCS : Hid (C + 1 ≤ (wr.alloc (.cells #[.int .i64 (A.toNat : Int), .int .i64 (Bq.toNat : Int)] 60)).heap.size) := Lib.hid (by have := HO6.out.c.lt; omega)
            have HUX : Hid (∀ j u, (enQ ((A.toNat : Int), (Bq.toNat : Int)))[j]? = some u → (wr.alloc (.cells #[.int .i64 (A.toNat : Int), .int .i64 (Bq.toNat : Int)] 60)).cell? ((⟨wr.heap.size, 0, none⟩ : Addr).add j) = some u) := Lib.hid (rec_new rfl rfl)
            have HXL6 : Hid (xb < wr.heap.size) := Lib.hid xl
            clear hW6
            go_wp2_with ((at_builtin; refine wpList_appR rfl _ _ 34 60 _ 16 rfl Try.underlying34 infoQ rfl (by decide) recQ (C + 1) (.slice va2 vn2 vc2) (xs ++ List.replicate q ((A.toNat : Int), (Bq.toNat : Int))) rfl ⟨wr.heap.size, 0, none⟩ 1 rfl ((A.toNat : Int), (Bq.toNat : Int)) HO6.out.o HUX.out HLN.out HCS.out ?_))
            intro v7 w7 ho7 hg7 hor7
            rw [← List.replicate_succ'] at ho7
            have hp7 := HO6.out.app hg7 ho7
            have hx7 : w7.heap[xb]? = some (.cells #[.int .i64 (A.toNat : Int), .int .i64 (Bq.toNat : Int)] 60 (0, 0)) := (hg7.block xb (ro.lt_of HXb6.out) (fun e => HNe.out xb e.symm rfl)).trans HXb6.out
            have hn7 : ∀ g, v7.ownBlock = some g → g ≠ xb := fun g hg e => by
              rcases hor7 with h | h
              · rw [h] at hg; exact HNe.out g hg e
              · rw [h] at hg
                cases hg
                have := HXL6.out
                omega
            obtain ⟨a7, c7, rfl⟩ := ho7.form
            have HP7 := Lib.hid hp7
            have HX7 := Lib.hid hx7
            have HN7 := Lib.hid hn7
            clear ho7 hg7 hor7 hp7 hx7 hn7 x0 x1 xl HO6 HXb6 HLN HCS HUX
            go_wp2_with fail
            go_roundw
            case rel => exact ⟨q + 1, a7, _, c7, by omega, rfl, by go_num, HP7, HX7, HN7⟩
            case measure => simp [intOf]; omega
          · obtain rfl : q = cc := by omega
            have HXN : Hid (∃ xs, PU w wr C (L.drop (3 * (t + 1))) (.slice va2 vn2 vc2) xs ∧ xs ++ up (L.drop (3 * (t + 1))) = up L ∧ xs.length ≤ 256 * (t + 1)) := Lib.hid ⟨_, by rw [show 3 * (t + 1) = i + 3 by have := HI.out; omega, HM.out]; exact HO.out, by rw [List.append_assoc, show 3 * (t + 1) = i + 3 by have := HI.out; omega, HM.out, ← HCC.out]; exact HXU.out, by rw [List.length_append, List.length_replicate]; have := HXL.out; omega⟩
            have HSZ : Hid (szAt C wr = M.length) := Lib.hid (szAt_of HO.out.c)
            clear HO HXU HXL
            go_wp2_with fail
            go_roundw
            case rel => exact ⟨t + 1, va2, vn2, vc2, by omega, rfl, HXN⟩
            case measure => rw [HSZ.out, HML.out, ← HM3.out]; omega
      · obtain rfl : t = T := by omega
        have hdn : L.drop i = [] := by rw [← hi, show 3 * t = L.length by rw [HNL.out]; exact HT.out.symm, List.drop_length]
        rw [hdn] at hPU hxu
        have hs0 : (⟨([] : List UInt8).toArray⟩ : ByteArray).size = 0 := rfl
        have HLF := Lib.hid (left_v C _ false wr hPU.c)
        rw [hs0] at HLF
        have HEE : Hid (OR 2 enQ wr w.heap.size 60 (.slice va vn vc) (up L)) := Lib.hid (by
          have : xs = up L := by rw [← hxu]; simp [up]
          rw [← this]
          exact OR.low hPU.o (by have := hPU.h; omega))
        have HBB := Lib.hid hPU.b
        clear HX hPU hxu hdn hi hml hdl hs0
        go_wp2_with fail
        refine HLF.out.mono ?_
        rintro e w2 ⟨rfl, rfl⟩
        go_wp2_with fail
        exact HE.out _ _ HBB.out HEE.out
  · have hrI : ((r : Int) == 0) = false := by simp; omega
    have hrI2 : ¬ (r : Int) = 0 := by omega
    have hrn : ((r : Int) != 0) = true := by simp; omega
    have HE : Hid (P (.returned (.tuple #[.slice none 0 0, .int .i64 1])) w) := Lib.hid (HNo.out w (by omega) (Below.refl _ _))
    clear HY HNo
    go_enter Try.func14, Try.ntmps14
    go_wp2_with fail
    exact HE.out
end Go.Proofs.Ytokkgfefiblmiaa.rp
