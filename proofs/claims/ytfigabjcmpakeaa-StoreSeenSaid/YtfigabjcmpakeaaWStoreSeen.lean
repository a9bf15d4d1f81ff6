/- Who looks sees each: the law StoreSeen answers true. No condition. -/
import Derived.Test.YtfigabjcmpakeaaSeen4
import Derived.Test.YtfigabjcmpakeaaWStoreDoes
import Derived.Deep.RegionHeld3
import Derived.Deep.DrawnRows
namespace Go.Proofs.Ytfigabjcmpakeaa.storeSeen
open Go.ChangeShapes Go.WideShapes Go.ChangeAt Go.RowKit
open Go.Proofs.Ytfigabjcmpakeaa.sn
open Go.Proofs.Ytfigabjcmpakeaa.storeDoes (OpFact)
set_option linter.unusedVariables false
set_option linter.unusedSimpArgs false
theorem hook_24 (S g : Nat) (xs : List Int) (h0v : Value) (q : Nat) (w0 w : World) (h : fx.StoreH w S g xs h0v) (hB : Below w0.heap.size w0 w) (hS0 : w0.heap.size ≤ S) : Calls Try.prog 22 #[.pointer (some ⟨S, 0, none⟩), .func (.func 24) #[] #[.pointer (some ⟨q, 0, none⟩)]] w fun e w' => e = .returned (.tuple #[]) ∧ fx.StoreH w' S g xs (hv q) ∧ Keep S w w' ∧ Below w0.heap.size w0 w' := by
  obtain ⟨h0, h1, _, _, _, _, hf⟩ := h.facts
  have hH := Lib.hid h
  clear h
  go_enter Try.func22, Try.ntmps22
  go_wp2_with fail
  go_end0
  refine ⟨rfl, ⟨?_, ?_, hH.out.2.2⟩, Keep.set rfl, hB.setCell hS0 _⟩
  · obtain ⟨hlt, hk⟩ := Array.getElem?_eq_some_iff.1 hH.out.1
    show (w.heap.modify S _)[S]? = _
    rw [Array.getElem?_eq_getElem (by rw [Array.size_modify]; exact hlt), Array.getElem_modify_self, hk]
    simp [hv]
  · show (w.heap.modify S _)[g]? = _
    rw [Array.getElem?_modify, if_neg hH.out.2.2]
    exact hH.out.2.1
theorem sb_neq (x : Int) (b : Bool) (w : World) : (binOp .neq 42 (.agg #[.int .i64 x, .bool b]) (.agg #[.int .i64 x, .bool b])).run Try.prog w = .ok (.bool false) w := by
  have h : (Op.equalIn 10000 42 (.agg #[.int .i64 x, .bool b]) (.agg #[.int .i64 x, .bool b])).run Try.prog w = .ok true w := by
    rw [show (10000 : Nat) = 9999 + 1 from rfl, run_equalIn_struct w 9999 42 _ _ (by kernel_rfl) (by kernel_rfl)]
    simp [go_sem, Try.underlying42]
  simp only [binOp]
  simp [Op.equal, Op.maxDepth, h]
theorem row_cells {w : World} {B cap i : Nat} {o : Option Addr} {L : List SB} (h : w.ownsRow B 42 2 (.slice o L.length cap) L.length (prs L)) (hi : i < L.length) (x : Int) (b : Bool) (hx : L[i]? = some (x, b)) : ∃ q, o = some ⟨q, 0, none⟩ ∧ w.cell? ⟨q, i * 2, none⟩ = some (.int .i64 x) ∧ w.cell? ⟨q, i * 2 + 1, none⟩ = some (.bool b) ∧ L.length ≤ cap := by
  have hcs := fun q (hq : (Value.slice o L.length cap).ownBlock = some q) => h.cells hq
  obtain ⟨_, ⟨h0, h1⟩ | ⟨q, cap', cur, he, hb, hg, hle, hm', _⟩⟩ := h
  · omega
  · cases he
    have e := prs_at L i _ hx
    have c0 := hcs q rfl (i * 2) _ e.1
    have c1 := hcs q rfl (i * 2 + 1) _ e.2
    rw [Go.WideShapes.add_plain] at c0 c1
    exact ⟨q, rfl, by simpa using c0, by simpa using c1, by omega⟩
theorem big (a0 : Int) (y : Option Addr) (len cap : Nat) (w : World) (h : 300 < len) :
    Calls Try.prog 4 #[.int .u8 a0, .slice y len cap] w fun e w' => e = .returned (.bool true) ∧ Below w.heap.size w w' := by
  go_enter Try.func4, Try.ntmps4
  go_wp2_with (first | (go_at_call 15; refine (works09 _).mono ?_; rintro e w1 ⟨rfl, hb1⟩))
  go_ret
  exact ⟨rfl, hb1⟩
set_option maxHeartbeats 8000000 in
set_option maxRecDepth 20000 in
theorem core (n : Nat) (y : Option Addr) (len cap : Nat) (Z : Nat → Nat → Int) (w : World) (hn : n ≤ 255) (h : len ≤ 300) (hy : Hid (OpFact y len w Z)) :
    Calls Try.prog 4 #[.int .u8 n, .slice y len cap] w fun e w' => e = .returned (.bool true) ∧ Below w.heap.size w w' := by
  have hmf : ∀ (fn : Fn) (first cap : Array Value) (w : World), (Instr.makeFunc fn first cap).run Try.prog w = .ok (.func fn first cap) w := fun _ _ _ _ => rfl
  have hwr : IntKind.i64.wrap (n : Int) = n := by rw [IntKind.wrap_i64]; omega
  go_enter Try.func4, Try.ntmps4
  go_wp2_with fail
  refine (works09 _).mono ?_
  rintro e w1 ⟨rfl, hb1⟩
  go_wp2_with fail
  refine (new_n n _ (by omega)).mono ?_
  rintro e w2 ⟨rfl, hs0, hb2⟩
  go_wp2_with fail
  refine (new_n n _ (by omega)).mono ?_
  rintro e w3 ⟨rfl, ht0, hb3⟩
  go_wp2_with fail
  obtain ⟨wa, hwa⟩ : ∃ wa, wa = w3.alloc (Obj.cells #[Value.slice none 0 0] 40) := ⟨_, rfl⟩
  have hba : Below w3.heap.size w3 wa := by rw [hwa]; go_grown
  have hVa : wa.heap[w3.heap.size]? = some (.cells #[Value.slice none 0 0] 40 (0, 0)) := by rw [hwa]; exact heap_made w3 _
  have hza : wa.heap.size = w3.heap.size + 1 := by rw [hwa]; simp
  rw [← hwa]
  clear hwa
  have hS : w1.heap.size + 1 < w2.heap.size := hs0.facts.2.2.2.2.1
  have hT : w2.heap.size + 1 < w3.heap.size := ht0.facts.2.2.2.2.1
  have hz1 := hb1.size
  have hsa : StoreAt wa (w1.heap.size + 1) w1.heap.size (List.replicate n 0) := (hs0.below hb3).below hba
  have hta : StoreAt wa (w2.heap.size + 1) w2.heap.size (List.replicate n 0) := ht0.below hba
  have hb0 : Below w.heap.size w wa := btr (btr (btr hb1 hb2) hb3) hba
  refine (hook_24 (w1.heap.size + 1) w1.heap.size (List.replicate n 0) .nilFunc w3.heap.size w _ hsa hb0 (by omega)).mono ?_
  rintro e wb ⟨rfl, hsb, hkb, hbb⟩
  have hzb := hkb.1
  have hM : MS w wb (w1.heap.size + 1) w1.heap.size (w2.heap.size + 1) w2.heap.size w3.heap.size (w3.heap.size + 1) (.slice none 0 0) (.slice none 0 0) (List.replicate n 0) (List.replicate n 0) [] [] :=
    ⟨⟨hsb, ⟨hbb, hkb.block hVa (by omega), ⟨rfl, .inl ⟨rfl, rfl⟩⟩, by omega, by omega, by omega, by omega⟩, by omega, by omega, by omega, by omega, by omega, by omega⟩,
     ⟨⟨hkb.block hta.1 (by omega), hkb.block hta.2.1 (by omega), by omega⟩, hbb, by omega⟩,
     ⟨rfl, .inl ⟨rfl, rfl⟩⟩, ⟨by omega, by omega, by omega, by omega, by omega, by omega, by omega⟩, fun k e => by cases e⟩
  have HM := Lib.hid hM
  have hl0 : Hid ((List.replicate n (0 : Int)).length = n) := Lib.hid (by rw [List.length_replicate])
  have hBb : w3.heap.size + 1 ≤ wb.heap.size := by omega
  clear hM hsb hkb hbb hsa hta hb0 hs0 ht0 hb1 hb2 hb3 hba hVa hza hS hT hz1 hzb
  generalize w1.heap.size + 1 = S at *
  generalize w1.heap.size = g at *
  generalize w2.heap.size + 1 = T at *
  generalize w2.heap.size = t at *
  generalize w3.heap.size + 1 = B at *
  generalize w3.heap.size = V at *
  generalize List.replicate n (0 : Int) = z0 at *
  go_wp2_with fail
  go_loopw [8, 9] (fun uw i wr => ∃ (j : Nat) (vw vs : Value) (xs : List Int) (L : List SB), vw = uw ∧ j ≤ len ∧ i = .int .i64 j ∧ MS w wr S g T t V B vs vw xs xs L L ∧ Hid (xs.length = n) ∧ Hid (L.length ≤ j)) (fun _ i _ => len - (intOf i).toNat)
  case atStart => exact ⟨0, _, _, z0, [], rfl, Nat.zero_le _, rfl, HM.out, hl0, Lib.hid (Nat.le_refl _)⟩
  case round =>
    clear HM hl0 hBb
    obtain ⟨j, vw, vs, xs, L, rfl, hj, rfl, hM, hl, hL⟩ := hrel
    by_cases hlt : j < len
    · obtain ⟨b, off, rfl, hb, hz0, hz1, hz2, hz3, hbd⟩ := hy.out j hlt
      have y0 : wr.cell? ⟨b, off + j * 4, none⟩ = some (.int .i64 (Z j 0)) := (hM.jt.2.1.cell (p := ⟨b, off + j * 4, none⟩) hb).trans hz0
      have y1 : wr.cell? ⟨b, off + j * 4 + 1, none⟩ = some (.int .i64 (Z j 1)) := (hM.jt.2.1.cell (p := ⟨b, off + j * 4 + 1, none⟩) hb).trans hz1
      have y2 : wr.cell? ⟨b, off + j * 4 + 2, none⟩ = some (.int .i64 (Z j 2)) := (hM.jt.2.1.cell (p := ⟨b, off + j * 4 + 2, none⟩) hb).trans hz2
      have y3 : wr.cell? ⟨b, off + j * 4 + 3, none⟩ = some (.int .i64 (Z j 3)) := (hM.jt.2.1.cell (p := ⟨b, off + j * 4 + 3, none⟩) hb).trans hz3
      obtain ⟨q1, q2⟩ := hbd 1 (by omega)
      obtain ⟨q3, q4⟩ := hbd 2 (by omega)
      clear hz0 hz1 hz2 hz3 hbd
      generalize Z j 0 = kd at *
      generalize Z j 1 = at_ at *
      generalize Z j 2 = m at *
      generalize Z j 3 = o at *
      obtain ⟨k1, hk1⟩ : ∃ k1, (if kd < 0 then (0 : Int) else kd) = k1 := ⟨_, rfl⟩
      obtain ⟨kk, hk2⟩ : ∃ kk, (if 4 < k1 then (4 : Int) else k1) = kk := ⟨_, rfl⟩
      have hkk : 0 ≤ kk ∧ kk ≤ 4 := by
        rw [← hk2, ← hk1]
        by_cases e1 : kd < 0
        · rw [if_pos e1]; decide
        · rw [if_neg e1]; by_cases e2 : 4 < kd
          · rw [if_pos e2]; decide
          · rw [if_neg e2]; omega
      obtain ⟨ys, want, ok, hyl, hk4, hD, hE⟩ := duo kk at_ m o xs hkk.1 hkk.2 (by rw [hl.out]; omega) q1 q2 q3 q4
      have HD := Lib.hid hD
      have HE := Lib.hid hE
      have HM := Lib.hid hM
      have HYL := Lib.hid hyl
      have HK4 := Lib.hid hk4
      have hsz := hM.hs.sn.lt
      have hlt4 := hM.hs.lt
      have hdj := hM.dj
      have hvl : ∀ k, vs.ownBlock = some k → k < wr.heap.size := fun k e => (hM.hs.sn.v.lt k e).2
      clear hD hE hM hyl hk4 q1 q2 q3 q4
      go_upto_region 13 with fail
      obtain ⟨W, hW⟩ : ∃ W, W = wr.alloc (Obj.cells #[Value.int .i64 kk, Value.int .i64 at_, Value.int .i64 m, Value.int .i64 o] 29) := ⟨_, rfl⟩
      have hbW : Below wr.heap.size wr W := by rw [hW]; go_grown
      have c0 : W.cell? ⟨wr.heap.size, 0, none⟩ = some (.int .i64 kk) := by rw [hW]; go_simp
      have c1 : W.cell? ⟨wr.heap.size, 1, none⟩ = some (.int .i64 at_) := by rw [hW]; go_simp
      have c2 : W.cell? ⟨wr.heap.size, 2, none⟩ = some (.int .i64 m) := by rw [hW]; go_simp
      have c3 : W.cell? ⟨wr.heap.size, 3, none⟩ = some (.int .i64 o) := by rw [hW]; go_simp
      have MW := Lib.hid (HM.out.below hbW)
      have hOg : wr.heap.size ≠ g := by omega
      have hOV : wr.heap.size ≠ V := by omega
      have hOt : wr.heap.size ≠ t := by omega
      have hOv : some wr.heap.size ≠ vs.ownBlock := fun e => by have := hvl _ e.symm; omega
      rw [← hW]
      clear hW hbW y0 y1 y2 y3 hk1 hk2 hvl HM hsz hlt4 hdj
      generalize wr.heap.size = O at *
      go_wp2_with fail
      refine (HD.out S g V B vs L w _ MW.out.hs (by have := hL.out; omega)).mono ?_
      rintro e w4 ⟨rfl, hp⟩
      obtain ⟨vs', m3, kg⟩ := MW.out.doS hp
      have M3 := Lib.hid m3
      replace c0 := keep_cell kg c0 hOg hOV hOv
      replace c1 := keep_cell kg c1 hOg hOV hOv
      replace c2 := keep_cell kg c2 hOg hOV hOv
      replace c3 := keep_cell kg c3 hOg hOV hOv
      clear hp m3 kg MW
      go_wp2_with fail
      refine (HE.out T t w _ M3.out.jt).mono ?_
      rintro e w5 ⟨rfl, hj5, hk5⟩
      have M5 := Lib.hid (M3.out.doT hj5 hk5)
      replace c0 := hk5.cell c0 hOt
      replace c1 := hk5.cell c1 hOt
      clear hj5 hk5 M3 c2 c3 HD HE
      by_cases hok : ok = true
      · subst hok
        by_cases hk : kk < 4
        · obtain ⟨bb, hbb⟩ : ∃ bb, decide (0 < kk) = bb := ⟨_, rfl⟩
          have hnx : nx kk at_ true = [(at_, bb)] := by simp [nx, hk, hbb]
          rw [hnx] at M5
          clear hnx
          go_wp2_with (at_builtin; refine wpList_appS rfl _ _ rfl B vw L [(at_, bb)] rfl w5.heap.size 1 1 42 #[.int .i64 at_, .bool bb] (0, 0) rfl ?o1 ?o2 rfl rfl ?o3 ?o4 ?_)
          case o1 => exact M5.out.rw.alloc _
          case o2 => exact heap_made w5 _
          case o3 => have := hL.out; (try simp only [List.length_cons, List.length_nil]); omega
          case o4 => have := M5.out.hs.sn.lt; show B ≤ (w5.heap.push _).size; simp; omega
          intro v6 w6 hr hg ho
          have M6 := Lib.hid (M5.out.app (vw' := v6) (Lw' := L ++ [(at_, bb)]) _ (by simpa using hr) hg (by simpa using ho))
          clear hr hg ho
          go_wp2_with fail
          go_roundw
          case rel => exact ⟨j + 1, _, _, ys, L ++ [(at_, bb)], rfl, by omega, by go_num, M6.out, Lib.hid (by rw [HYL.out]; exact hl.out), Lib.hid (by have := hL.out; simp; omega)⟩
          case measure => simp [intOf]; omega
        · have hnx : nx kk at_ true = [] := by simp [nx, hk]
          rw [hnx, List.append_nil] at M5
          clear hnx
          go_wp2_with fail
          go_roundw
          case rel => exact ⟨j + 1, _, _, ys, L, rfl, by omega, by go_num, M5.out, Lib.hid (by rw [HYL.out]; exact hl.out), Lib.hid (by have := hL.out; omega)⟩
          case measure => simp [intOf]; omega
      · obtain rfl : ok = false := by simpa using hok
        have hnx : nx kk at_ false = [] := by simp [nx]
        rw [hnx, List.append_nil] at M5
        clear hnx hok
        go_wp2_with fail
        go_roundw
        case rel => exact ⟨j + 1, _, _, ys, L, rfl, by omega, by go_num, M5.out, Lib.hid (by rw [HYL.out]; exact hl.out), Lib.hid (by have := hL.out; omega)⟩
        case measure => simp [intOf]; omega
    · obtain rfl : j = len := by omega
      obtain ⟨o1, cap1, hv1⟩ := formS hM.hs.sn.v
      obtain ⟨o2, cap2, hv2⟩ := formS hM.rw
      subst hv1 hv2
      have cV := hM.hs.sn.facts.1
      have HM := Lib.hid hM
      have hLl := hL.out
      have HV := Lib.hid cV
      clear hM
      go_wp2_with fail
      go_loopw [15] (fun i w2 => ∃ k : Nat, k ≤ L.length ∧ i = .int .i64 k ∧ Below wr.heap.size wr w2) (fun i _ => L.length - (intOf i).toNat)
      case atStart => exact ⟨0, Nat.zero_le _, rfl, Below.refl _ _⟩
      case round =>
        obtain ⟨k, hk, rfl, hbk⟩ := hrel
        have M2 := HM.out.below hbk
        clear cV
        have cV := M2.hs.sn.facts.1
        by_cases hlk : k < L.length
        · obtain ⟨⟨x, bx⟩, hx⟩ : ∃ p, L[k]? = some p := ⟨L[k], by simp⟩
          obtain ⟨qa, rfl, a0, a1, a2⟩ := row_cells M2.hs.sn.v hlk x bx hx
          obtain ⟨qb, rfl, b0, b1, b2⟩ := row_cells M2.rw hlk x bx hx
          have hq := fun w => sb_neq x bx w
          clear hx M2
          have HK := hbk
          go_wp2_with fail
          go_region_held3 (fun w' => Below wr.heap.size wr w' ∧ w'.cell? ⟨V, 0, none⟩ = some (.slice (some ⟨qa, 0, none⟩) L.length cap1) ∧ w'.cell? ⟨qa, k * 2, none⟩ = some (.int .i64 x) ∧ w'.cell? ⟨qa, k * 2 + 1, none⟩ = some (.bool bx) ∧ w'.cell? ⟨qb, k * 2, none⟩ = some (.int .i64 x) ∧ w'.cell? ⟨qb, k * 2 + 1, none⟩ = some (.bool bx)) (first | (with_reducible assumption) | exact ⟨hbk, cV, a0, a1, b0, b1⟩ | (refine ⟨?_, ?_, ?_, ?_, ?_, ?_⟩ <;> first | (go_grown; done) | (go_simp; done))) (fail)
          go_wp2_with fail
          refine ⟨⟨k + 1, by omega, by go_num, hbk.trans ⟨rfl, rfl, rfl, Nat.le_refl _, fun _ _ => rfl⟩⟩, by simp [intOf]; omega⟩
        · obtain rfl : k = L.length := by omega
          have HM2 := Lib.hid M2
          clear M2
          go_wp2_with fail
          refine (fx.all_h S g xs _ _ HM2.out.hs.st (by have := hl.out; omega)).mono ?_
          rintro e w6 hRP
          obtain ⟨va, rfl, hra, hb6⟩ := hRP
          have HM3 := Lib.hid (HM2.out.below hb6)
          go_wp2_with fail
          refine (all_any T t xs _ HM3.out.jt.1 (by have := hl.out; omega)).mono ?_
          rintro e w7 hRP
          obtain ⟨vb, rfl, hrb, hb7⟩ := hRP
          have HM4 := Lib.hid (HM3.out.below hb7)
          have hv1 : View w7 va xs := view_of_own (row_kept hra fun k q => hb7.block k (hra.lt k q).2)
          have hv2 : View w7 vb xs := view_of_own hrb
          have V1 := Lib.hid hv1
          have V2 := Lib.hid hv2
          clear hra hb6 hrb hb7 hv1 hv2
          go_wp2_with fail
          refine (ints_any _ _ xs xs _ V1.out V2.out).mono ?_
          rintro e w8 ⟨rfl, nq, rfl⟩
          rw [beq_self_eq_true]
          go_wp2_with fail
          go_ret
          exact ⟨rfl, (HM4.out.below (below_drewN (Below.refl _ _) _)).jt.2.1⟩
theorem walk (a0 : Int) (a1 : Option Addr) (len1 cap1 : Nat) (z1 : Nat → Nat → Int) (w : World) (w0 : (Lit.int .u8 a0).wf = true) (w1 : IsGrid [.i64, .i64, .i64, .i64] w a1 len1 cap1 z1) :
    Calls Try.prog 4 #[.int .u8 a0, .slice a1 len1 cap1] w fun e w' => e = .returned (.bool true) ∧ Below w.heap.size w w' := by
  by_cases hbig : 300 < len1
  · exact big a0 a1 len1 cap1 w hbig
  · have hu : 0 ≤ a0 ∧ a0 ≤ 255 := bounds_u8 w0
    obtain ⟨n, rfl⟩ := Int.eq_ofNat_of_zero_le hu.1
    refine core n a1 len1 cap1 z1 w (by omega) (by omega) (Lib.hid fun i hi => ?_)
    rcases w1.split (by decide) with h | ⟨b, off, rfl, hb, hle, hm, hc⟩
    · omega
    · refine ⟨b, off, rfl, hb, (hc i (by omega) 0 _ rfl).1, (hc i (by omega) 1 _ rfl).1, (hc i (by omega) 2 _ rfl).1, (hc i (by omega) 3 _ rfl).1, fun j hj => ?_⟩
      match j, hj with
      | 0, _ => exact bounds_i64 (hc i (by omega) 0 _ rfl).2
      | 1, _ => exact bounds_i64 (hc i (by omega) 1 _ rfl).2
      | 2, _ => exact bounds_i64 (hc i (by omega) 2 _ rfl).2
      | 3, _ => exact bounds_i64 (hc i (by omega) 3 _ rfl).2
end Go.Proofs.Ytfigabjcmpakeaa.storeSeen
