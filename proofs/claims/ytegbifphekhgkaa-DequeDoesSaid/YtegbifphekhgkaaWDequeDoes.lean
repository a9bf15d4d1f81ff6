/- Whatever an owner and three thieves do at a deque, step by step, in any order: each step leaves all words, and each walk tells, as the document's own walk does: the law DequeDoes answers true. No condition. -/
import Derived.Test.YtegbifphekhgkaaDqL9
import Derived.Test.YtegbifphekhgkaaGrids
namespace Go.Proofs.Ytegbifphekhgkaa.dequeDoes
open Go.ChangeShapes Go.WideShapes Go.ChangeAt Go.RowKit
open Go.Proofs.Ytegbifphekhgkaa.ro (Ro KX ext)
open Go.Proofs.Ytegbifphekhgkaa.dqd
attribute [local go_sem ↓] Go.wp_at_zero Go.wp_at_succ
set_option linter.unusedVariables false
set_option linter.unusedSimpArgs false
theorem run_make_cells (P : Program) (t e : TypeId) (z : Value) (size bytes : Nat) (ht : P.underlying t = some (.slice e)) (hinfo : (P.info? e).map (fun i => (i.zero, i.size, i.bytes)) = some (some z, size, bytes))
    (kl kc : IntKind) (n : Nat) (hbytes : bytes * n ≤ 281474976710656) (h63 : n ≤ 9223372036854775807) (w : World) :
    (Instr.makeSlice t (.int kl (n : Int)) (.int kc (n : Int))).run P w = .ok (.slice (some ⟨w.heap.size, 0, none⟩) n n) (w.alloc (.cells (madeCells z.cells (n * size)) e)) := by
  obtain ⟨i, hi, hzz⟩ := Option.map_eq_some_iff.1 hinfo
  simp only [Prod.mk.injEq] at hzz
  obtain ⟨hz, hs, hb⟩ := hzz
  have hb' : (i.bytes : Int) * (n : Int) ≤ 281474976710656 := by
    have h : ((i.bytes * n : Nat) : Int) ≤ 281474976710656 := by rw [hb]; omega
    rwa [Int.natCast_mul] at h
  have hr := run_make (P := P) w t e i z ht hi hz kl kc n n (by omega) (Int.le_refl _) hb' (by omega)
  simp only [Int.toNat_natCast, hs] at hr
  exact hr
theorem made_one (a : Value) (n : Nat) : madeCells #[a] n = (List.replicate n a).toArray := by
  apply Array.ext
  · simp [size_madeCells]
  · intro i h1 h2
    simp [madeCells, Nat.mod_one]
/-- the play as it begins. -/
theorem start {w w3 : World} {Pl S g D P who n : Nat} (hD2 : 2 ≤ D) (hD8 : D ≤ 8) (hn : 2 * (4 + D) + 10 = n) (hPn : P + 4 < n) (hb : Below w.heap.size w w3) (hst : StoreAt w3 S g (List.replicate n 0)) (hg0 : w.heap.size ≤ g) (hp0 : w.heap.size ≤ Pl) (hpg : Pl < g) (hgS : g < S) (hSw : S < w3.heap.size) (hp : w3.heap[Pl]? = some (.cells #[.int .i64 2, .int .i64 1, .int .i64 1, .int .i64 (D : Int)] 25 (0, 0)))
    {w7 : World} (h7 : w7 = ((w3.alloc (.cells (madeCells #[.int .i64 0] n) 3)).alloc (.cells (madeCells #[.pointer none] 4) 35)).alloc (.cells (madeCells #[.int .i64 0, .int .i64 0, .int .i64 0, .int .i64 0, .int .i64 0, .int .i64 0, .int .i64 0, .int .i64 0, .bool false, .bool false] 40) 37)) :
    LI w w7 Pl S g (w3.heap.size + 1) (w3.heap.size + 2) P D who n 0 (.slice (some ⟨w3.heap.size, 0, none⟩) n n) 0 := by
  obtain ⟨M, hM⟩ : ∃ M, w3.heap.size = M := ⟨_, rfl⟩
  have hb7 : Below w3.heap.size w3 w7 := by rw [h7]; go_grown
  obtain ⟨w5, hw5⟩ : ∃ w5, (w3.alloc (.cells (madeCells #[.int .i64 0] n) 3)).alloc (.cells (madeCells #[.pointer none] 4) 35) = w5 := ⟨_, rfl⟩
  obtain ⟨x0, x1, x2⟩ := two_boxes hw5
  have hs5 : w5.heap.size = M + 2 := by
    rw [← hw5, ← hM]
    show ((w3.heap.push _).push _).size = _
    simp
  rw [hw5] at h7
  have hb57 : Below w5.heap.size w5 w7 := by rw [h7]; go_grown
  rw [hM] at x0 x1
  have e0 : w7.heap[M]? = some (.cells (madeCells #[.int .i64 0] n) 3 (0, 0)) := (hb57.block M (by omega)).trans x0
  have hm1 : madeCells #[Value.pointer none] 4 = #[ptrV none, ptrV none, ptrV none, ptrV none] := by rw [made_one]; rfl
  have e1 : w7.heap[M + 1]? = some (.cells #[ptrV none, ptrV none, ptrV none, ptrV none] 35 (0, 0)) := by rw [← hm1]; exact (hb57.block (M + 1) (by omega)).trans x1
  have e2 : w7.heap[M + 2]? = some (.cells ((⟨0, 0, 0, 0, 0, 0, 0, 0, false, false⟩ : Rk).cs ++ (⟨0, 0, 0, 0, 0, 0, 0, 0, false, false⟩ : Rk).cs ++ (⟨0, 0, 0, 0, 0, 0, 0, 0, false, false⟩ : Rk).cs ++ (⟨0, 0, 0, 0, 0, 0, 0, 0, false, false⟩ : Rk).cs) 37 (0, 0)) := by
    have hm2 : madeCells #[Value.int .i64 0, .int .i64 0, .int .i64 0, .int .i64 0, .int .i64 0, .int .i64 0, .int .i64 0, .int .i64 0, .bool false, .bool false] 40 = (⟨0, 0, 0, 0, 0, 0, 0, 0, false, false⟩ : Rk).cs ++ (⟨0, 0, 0, 0, 0, 0, 0, 0, false, false⟩ : Rk).cs ++ (⟨0, 0, 0, 0, 0, 0, 0, 0, false, false⟩ : Rk).cs ++ (⟨0, 0, 0, 0, 0, 0, 0, 0, false, false⟩ : Rk).cs := by kernel_rfl
    rw [← hs5, h7, ← hm2]
    exact heap_alloc_new _ _
  rw [hM] at hSw hb7 ⊢
  clear h7
  refine ⟨fun b => if b < w.heap.size then 0 else if b = Pl then 1 else if b = M + 1 then 2 else if b = M + 2 then 3 else if b = M then 4 else if b = g then 5 else if b = S then 6 else 9, fun _ => none, fun _ => ⟨0, 0, 0, 0, 0, 0, 0, 0, false, false, .nilFunc⟩, fun _ => ⟨0, 0, 0, 0, 0, 0, 0, 0, false, false⟩, List.replicate n 0, ⟨fun k hk => if_pos hk, btr hb (by rw [hM]; exact hb7), hst.below (by rw [hM]; exact hb7), hg0, ?_, ?_, (hb7.block Pl (by omega)).trans hp, ?_, e1, ?_, e2, ?_, ?_, ?_, fun k _ _ A hA => by simp at hA, by simp, by simp, ?_⟩, by omega, by omega⟩
  · show (if _ then _ else _) = _
    rw [if_neg (by omega), if_neg (by omega), if_neg (by omega), if_neg (by omega), if_neg (by omega), if_neg (by omega), if_pos rfl]
  · show (if _ then _ else _) = _
    rw [if_neg (by omega), if_neg (by omega), if_neg (by omega), if_neg (by omega), if_neg (by omega), if_pos rfl]
  · show (if _ then _ else _) = _
    rw [if_neg (by omega), if_pos rfl]
  · show (if _ then _ else _) = _
    rw [if_neg (by omega), if_neg (by omega), if_pos rfl]
  · show (if _ then _ else _) = _
    rw [if_neg (by omega), if_neg (by omega), if_neg (by omega), if_pos rfl]
  · refine ⟨by simp, .inr ⟨M, n, _, by simp, by omega, e0, by simp, by unfold maxLen; omega, by rw [size_madeCells, Nat.mul_one], ?_⟩⟩
    rw [made_one]
    simp
  · intro q hq
    simp only [Value.ownBlock, Option.some.injEq] at hq
    subst hq
    show (if _ then _ else _) = _
    rw [if_neg (by omega), if_neg (by omega), if_neg (by omega), if_neg (by omega), if_pos rfl]
  · have : (List.replicate n (0 : Int)).getD (P + 0) 0 = 0 := by
      rw [List.getD_eq_getElem?_getD, List.getElem?_replicate]
      split <;> rfl
    rw [this]
    exact ⟨Int.le_refl _, Int.le_refl _⟩
set_option maxRecDepth 20000 in
set_option maxHeartbeats 4000000 in
theorem core (x D n len cap : Nat) (wb : Bool) (a1 : Option Addr) (z : Nat → Nat → Int) (w : World) (hx : x ≤ 255) (hD : x % 7 + 2 = D) (hn : 2 * (4 + D) + 10 = n) (hlen : len ≤ 300)
    (hz : ∀ k, k < len → ∃ b off, a1 = some ⟨b, off, none⟩ ∧ b < w.heap.size ∧ w.cell? ⟨b, off + k * 3, none⟩ = some (.int .u8 (z k 0)) ∧ w.cell? ⟨b, off + k * 3 + 1, none⟩ = some (.int .u8 (z k 1)) ∧ w.cell? ⟨b, off + k * 3 + 2, none⟩ = some (.int .i64 (z k 2)) ∧ 0 ≤ z k 0 ∧ z k 0 ≤ 255 ∧ 0 ≤ z k 1 ∧ z k 1 ≤ 255) :
    Calls Try.prog 3 #[.int .u8 (x : Int), .bool wb, .slice a1 len cap] w fun e w' => e = .returned (.bool true) ∧ Below w.heap.size w w' := by
  have hD2 : 2 ≤ D := by omega
  have hD8 : D ≤ 8 := by omega
  have hDn := Lib.hid hn
  have hnl : n ≤ 34 := by omega
  have hd1 : IntKind.i64.wrap (x : Int) = (x : Int) := by rw [IntKind.wrap_i64]; omega
  have hd2 : (x : Int).tmod 7 = (D : Int) - 2 := by rw [Int.tmod_eq_emod_of_nonneg (by omega)]; omega
  have hd3 : (D : Int) - 2 + 2 = (D : Int) := by omega
  have hd5 : decide (300 < len) = false := by simp; omega
  have hd6 : ¬ (300 : Int) < (len : Int) := by omega
  have hmk1 : ∀ w, (Instr.makeSlice 30 (.int .i64 (n : Int)) (.int .i64 (n : Int))).run Try.prog w = _ := fun w => run_make_cells Try.prog 30 3 (.int .i64 0) 1 8 Try.underlying30 (by kernel_rfl) .i64 .i64 n (by omega) (by omega) w
  have hmk2 : ∀ w, (Instr.makeSlice 31 (.int .i64 4) (.int .i64 4)).run Try.prog w = _ := fun w => run_make_cells Try.prog 31 35 (.pointer none) 1 8 Try.underlying31 (by kernel_rfl) .i64 .i64 4 (by omega) (by omega) w
  have hmk3 : ∀ w, (Instr.makeSlice 32 (.int .i64 4) (.int .i64 4)).run Try.prog w = _ := fun w => run_make_cells Try.prog 32 37 (.agg #[.int .i64 0, .int .i64 0, .int .i64 0, .int .i64 0, .int .i64 0, .int .i64 0, .int .i64 0, .int .i64 0, .bool false, .bool false]) 10 72 Try.underlying32 (by kernel_rfl) .i64 .i64 4 (by omega) (by omega) w
  have HZ := Lib.hid hz
  have HLEN := Lib.hid hlen
  clear hn hx hD hz
  cases wb with
  | false =>
    go_enter Try.func3, Try.ntmps3
    go_wp2_with fail
    refine (works13 w).mono ?_
    rintro e wk ⟨rfl, hbk⟩
    go_wp2_with fail
    refine (plan13 (D : Int) wk).mono ?_
    rintro e w1 ⟨rfl, hb1⟩
    go_wp2_with fail
    obtain ⟨W, hW⟩ : ∃ W, W = w1.alloc (Obj.cells #[Value.int .i64 2, .int .i64 1, .int .i64 1, .int .i64 (D : Int)] 25) := ⟨_, rfl⟩
    have hp : W.heap[w1.heap.size]? = some (.cells #[Value.int .i64 2, .int .i64 1, .int .i64 1, .int .i64 (D : Int)] 25 (0, 0)) := by rw [hW]; exact heap_alloc_new _ _
    have hb : Below w.heap.size w W := by rw [hW]; exact btr (btr hbk hb1) (by go_grown)
    have hPg : w.heap.size ≤ w1.heap.size := (btr hbk hb1).size
    rw [← hW]
    clear hW hb1 hbk
    generalize w1.heap.size = Pl at *
    refine (size13 D n _ (by omega) (by omega) hDn.out).mono ?_
    rintro e w2 ⟨rfl, hb2⟩
    have hp2 := (hb2.block Pl (lt_of_heap hp)).trans hp
    have hbw2 := btr hb hb2
    clear hb hb2 hp
    go_wp2_with fail
    refine (new_n n _ (by omega)).mono ?_
    rintro e w3 ⟨rfl, hs, hb3⟩
    have hg : Pl < w2.heap.size := lt_of_heap hp2
    have hp3 := (hb3.block Pl hg).trans hp2
    have q0 : w3.cell? ⟨Pl, 0, none⟩ = some (.int .i64 2) := by simp [World.cell?, hp3]
    have q1 : w3.cell? ⟨Pl, 1, none⟩ = some (.int .i64 1) := by simp [World.cell?, hp3]
    have q2 : w3.cell? ⟨Pl, 2, none⟩ = some (.int .i64 1) := by simp [World.cell?, hp3]
    have q3 : w3.cell? ⟨Pl, 3, none⟩ = some (.int .i64 (D : Int)) := by simp [World.cell?, hp3]
    have hgw : w.heap.size ≤ w2.heap.size := hbw2.size
    have hbw3 := btr hbw2 hb3
    obtain ⟨g, hgg⟩ : ∃ g, w2.heap.size = g := ⟨_, rfl⟩
    obtain ⟨S, hSS⟩ : ∃ S, w2.heap.size + 1 = S := ⟨_, rfl⟩
    rw [hSS]
    rw [hSS, hgg] at hs
    have hgS : g < S := by omega
    rw [hgg] at hg hgw
    clear hb3 hbw2 hp2 hgg hSS
    go_wp2_with fail
    refine (size13 D n _ (by omega) (by omega) hDn.out).mono ?_
    rintro e w4 ⟨rfl, hb4⟩
    have HST := Lib.hid (hs.below hb4)
    have HP4 := Lib.hid ((hb4.block Pl (lt_of_heap hp3)).trans hp3)
    have HB4 := Lib.hid (btr hbw3 hb4)
    have HNUM := Lib.hid (show w.heap.size ≤ Pl ∧ Pl < g ∧ g < S ∧ w.heap.size ≤ g from ⟨hPg, hg, hgS, hgw⟩)
    clear q0 q1 q2 q3 hb4 hp3 hs hbw3 hPg hg hgS hgw
    go_wp2_with fail
    obtain ⟨w7, hw7⟩ : ∃ w7, w7 = ((w4.alloc (.cells (madeCells #[.int .i64 0] n) 3)).alloc (.cells (madeCells #[.pointer none] 4) 35)).alloc (.cells (madeCells #[.int .i64 0, .int .i64 0, .int .i64 0, .int .i64 0, .int .i64 0, .int .i64 0, .int .i64 0, .int .i64 0, .bool false, .bool false] 40) 37) := ⟨_, rfl⟩
    have HL0 : Hid (LI w w7 Pl S g (w4.heap.size + 1) (w4.heap.size + 1 + 1) (0) D 0 n 0 (.slice (some ⟨w4.heap.size, 0, none⟩) n n) 0) := Lib.hid (start (who := 0) (P := 0) hD2 hD8 hDn.out (by have := hDn.out; omega) HB4.out HST.out HNUM.out.2.2.2 HNUM.out.1 HNUM.out.2.1 HNUM.out.2.2.1 HST.out.facts.2.2.2.2.1 HP4.out hw7)
    rw [← hw7]
    clear hw7 HST HP4 HB4 HNUM
    go_loopw [10, 13, 14] (fun m tl i wr => ∃ (k : Nat) (t : Int), k ≤ len ∧ tl = .int .i64 t ∧ i = .int .i64 (k : Int) ∧ Hid (LI w wr Pl S g (w4.heap.size + 1) (w4.heap.size + 1 + 1) (0) D 0 n k m t)) (fun _ _ i _ => len - (RowKit.intOf i).toNat)
    case atStart => exact ⟨0, 0, by omega, rfl, rfl, HL0⟩
    case round =>
      clear HL0
      obtain ⟨k, t, hk, rfl, rfl, HL⟩ := hrel
      by_cases hlt : k < len
      · obtain ⟨b, off, ha, hbl, z0, z1, z2, y0, y1, y2, y3⟩ := HZ.out k hlt
        have hl3 := HLEN.out
        refine round_in (who := 0) (P := 0) hD2 hD8 (by omega) (by omega) hDn.out (by omega) hlt ha hbl z1 z2 y2 y3 z0 y0 y1 HL.out ?_
        clear HL HZ
        intro v15 v16 v17 v18 v19 v20 v21 v41 v42 v43 v44 v45 v46 v47 v48 v49 v50 v51 v52 v53 v54 v55 v56 v57 v58 v59 v60 v61 v62 v63 v64 v65 v66 v67 v68 v69 v70 v71 v72 v73 v74 v75 v76 v77 v78 v79 v80 v81 v82 v83 v84 v85 v86 v87 v88 v89 v90 v91 v92 v93 v94 v95 v96 v97 v98 v99 v100 v101 v102 v103 v104 v105 v106 v107 v108 v109 v110 v111 v112 v113 v114 v115 v116 v117 v118 v119 v120 v121 v122 v123 v124 v125 v126 v127 v128 v129 v130 v131 v132 v133 v134 v135 v136 v137 v138 v139 v140 v141 v142 v143 v144 v145 v146 v147 v148 v149 v150 v151 v152 v153 v154 v155 v156 v157 v158 v159 v160 v161 v162 v163 v164 v165 v166 v167 v168 v169 v170 v171 v172 v173 v174 v175 v176 v177 v178 v179 v180 v181 v182 v183 v184 v185 v186 v187 v188 v189 v190 v191 v192 v193 v194 v195 v196 v197 v198 v199 v200 v201 v202 v203 v204 v205 v206 v207 v208 v209 v210 v211 v212 v213 v214 v215 v216 v217 mv1 tl1 w2 hL
        refine ⟨⟨_, _, _, _, _, _, _, _, _, _, _, _, _, _, _, _, _, _, _, _, _, _, _, _, _, _, _, _, _, _, _, _, _, _, _, _, _, _, _, _, _, _, _, _, _, _, _, _, _, _, _, _, _, _, _, _, _, _, _, _, _, _, _, _, _, _, _, _, _, _, _, _, _, _, _, _, _, _, _, _, _, _, _, _, _, _, _, _, _, _, _, _, _, _, _, _, _, _, _, _, _, _, _, _, _, _, _, _, _, _, _, _, _, _, _, _, _, _, _, _, _, _, _, _, _, _, _, _, _, _, _, _, _, _, _, _, _, _, _, _, _, _, _, _, _, _, _, _, _, _, _, _, _, _, _, _, _, _, _, _, _, _, _, _, _, _, _, _, _, _, _, _, _, _, _, _, _, _, _, _, _, _, _, _, _, _, _, _, ⟨k + 1, tl1, hlt, rfl, rfl, Lib.hid hL⟩, rfl⟩, ?_⟩
        simp [RowKit.intOf]
        omega
      · obtain rfl : k = len := by omega
        have HB : Hid (Below w.heap.size w wr) := Lib.hid (by obtain ⟨_, _, _, _, _, h, _, _⟩ := HL.out; exact h.b)
        clear HL HZ
        go_wp2_with fail
        go_ret
        exact ⟨rfl, HB.out⟩
  | true =>
    go_enter Try.func3, Try.ntmps3
    go_wp2_with fail
    refine (works13 w).mono ?_
    rintro e wk ⟨rfl, hbk⟩
    go_wp2_with fail
    refine (plan13 (D : Int) wk).mono ?_
    rintro e w1 ⟨rfl, hb1⟩
    go_wp2_with fail
    obtain ⟨W, hW⟩ : ∃ W, W = w1.alloc (Obj.cells #[Value.int .i64 2, .int .i64 1, .int .i64 1, .int .i64 (D : Int)] 25) := ⟨_, rfl⟩
    have hp : W.heap[w1.heap.size]? = some (.cells #[Value.int .i64 2, .int .i64 1, .int .i64 1, .int .i64 (D : Int)] 25 (0, 0)) := by rw [hW]; exact heap_alloc_new _ _
    have hb : Below w.heap.size w W := by rw [hW]; exact btr (btr hbk hb1) (by go_grown)
    have hPg : w.heap.size ≤ w1.heap.size := (btr hbk hb1).size
    rw [← hW]
    clear hW hb1 hbk
    generalize w1.heap.size = Pl at *
    refine (size13 D n _ (by omega) (by omega) hDn.out).mono ?_
    rintro e w2 ⟨rfl, hb2⟩
    have hp2 := (hb2.block Pl (lt_of_heap hp)).trans hp
    have hbw2 := btr hb hb2
    clear hb hb2 hp
    go_wp2_with fail
    refine (new_n n _ (by omega)).mono ?_
    rintro e w3 ⟨rfl, hs, hb3⟩
    have hg : Pl < w2.heap.size := lt_of_heap hp2
    have hp3 := (hb3.block Pl hg).trans hp2
    have q0 : w3.cell? ⟨Pl, 0, none⟩ = some (.int .i64 2) := by simp [World.cell?, hp3]
    have q1 : w3.cell? ⟨Pl, 1, none⟩ = some (.int .i64 1) := by simp [World.cell?, hp3]
    have q2 : w3.cell? ⟨Pl, 2, none⟩ = some (.int .i64 1) := by simp [World.cell?, hp3]
    have q3 : w3.cell? ⟨Pl, 3, none⟩ = some (.int .i64 (D : Int)) := by simp [World.cell?, hp3]
    have hgw : w.heap.size ≤ w2.heap.size := hbw2.size
    have hbw3 := btr hbw2 hb3
    obtain ⟨g, hgg⟩ : ∃ g, w2.heap.size = g := ⟨_, rfl⟩
    obtain ⟨S, hSS⟩ : ∃ S, w2.heap.size + 1 = S := ⟨_, rfl⟩
    rw [hSS]
    rw [hSS, hgg] at hs
    have hgS : g < S := by omega
    rw [hgg] at hg hgw
    clear hb3 hbw2 hp2 hgg hSS
    go_wp2_with fail
    refine (size13 D n _ (by omega) (by omega) hDn.out).mono ?_
    rintro e w4 ⟨rfl, hb4⟩
    have HST := Lib.hid (hs.below hb4)
    have HP4 := Lib.hid ((hb4.block Pl (lt_of_heap hp3)).trans hp3)
    have HB4 := Lib.hid (btr hbw3 hb4)
    have HNUM := Lib.hid (show w.heap.size ≤ Pl ∧ Pl < g ∧ g < S ∧ w.heap.size ≤ g from ⟨hPg, hg, hgS, hgw⟩)
    clear q0 q1 q2 q3 hb4 hp3 hs hbw3 hPg hg hgS hgw
    go_wp2_with fail
    obtain ⟨w7, hw7⟩ : ∃ w7, w7 = ((w4.alloc (.cells (madeCells #[.int .i64 0] n) 3)).alloc (.cells (madeCells #[.pointer none] 4) 35)).alloc (.cells (madeCells #[.int .i64 0, .int .i64 0, .int .i64 0, .int .i64 0, .int .i64 0, .int .i64 0, .int .i64 0, .int .i64 0, .bool false, .bool false] 40) 37) := ⟨_, rfl⟩
    have HL0 : Hid (LI w w7 Pl S g (w4.heap.size + 1) (w4.heap.size + 1 + 1) (4 + D) D 1 n 0 (.slice (some ⟨w4.heap.size, 0, none⟩) n n) 0) := Lib.hid (start (who := 1) (P := 4 + D) hD2 hD8 hDn.out (by have := hDn.out; omega) HB4.out HST.out HNUM.out.2.2.2 HNUM.out.1 HNUM.out.2.1 HNUM.out.2.2.1 HST.out.facts.2.2.2.2.1 HP4.out hw7)
    rw [← hw7]
    clear hw7 HST HP4 HB4 HNUM
    go_loopw [10, 13, 14] (fun m tl i wr => ∃ (k : Nat) (t : Int), k ≤ len ∧ tl = .int .i64 t ∧ i = .int .i64 (k : Int) ∧ Hid (LI w wr Pl S g (w4.heap.size + 1) (w4.heap.size + 1 + 1) (4 + D) D 1 n k m t)) (fun _ _ i _ => len - (RowKit.intOf i).toNat)
    case atStart => exact ⟨0, 0, by omega, rfl, rfl, HL0⟩
    case round =>
      clear HL0
      obtain ⟨k, t, hk, rfl, rfl, HL⟩ := hrel
      by_cases hlt : k < len
      · obtain ⟨b, off, ha, hbl, z0, z1, z2, y0, y1, y2, y3⟩ := HZ.out k hlt
        have hl3 := HLEN.out
        refine round_in (who := 1) (P := 4 + D) hD2 hD8 (by omega) (by omega) hDn.out (by omega) hlt ha hbl z1 z2 y2 y3 z0 y0 y1 HL.out ?_
        clear HL HZ
        intro v15 v16 v17 v18 v19 v20 v21 v41 v42 v43 v44 v45 v46 v47 v48 v49 v50 v51 v52 v53 v54 v55 v56 v57 v58 v59 v60 v61 v62 v63 v64 v65 v66 v67 v68 v69 v70 v71 v72 v73 v74 v75 v76 v77 v78 v79 v80 v81 v82 v83 v84 v85 v86 v87 v88 v89 v90 v91 v92 v93 v94 v95 v96 v97 v98 v99 v100 v101 v102 v103 v104 v105 v106 v107 v108 v109 v110 v111 v112 v113 v114 v115 v116 v117 v118 v119 v120 v121 v122 v123 v124 v125 v126 v127 v128 v129 v130 v131 v132 v133 v134 v135 v136 v137 v138 v139 v140 v141 v142 v143 v144 v145 v146 v147 v148 v149 v150 v151 v152 v153 v154 v155 v156 v157 v158 v159 v160 v161 v162 v163 v164 v165 v166 v167 v168 v169 v170 v171 v172 v173 v174 v175 v176 v177 v178 v179 v180 v181 v182 v183 v184 v185 v186 v187 v188 v189 v190 v191 v192 v193 v194 v195 v196 v197 v198 v199 v200 v201 v202 v203 v204 v205 v206 v207 v208 v209 v210 v211 v212 v213 v214 v215 v216 v217 mv1 tl1 w2 hL
        refine ⟨⟨_, _, _, _, _, _, _, _, _, _, _, _, _, _, _, _, _, _, _, _, _, _, _, _, _, _, _, _, _, _, _, _, _, _, _, _, _, _, _, _, _, _, _, _, _, _, _, _, _, _, _, _, _, _, _, _, _, _, _, _, _, _, _, _, _, _, _, _, _, _, _, _, _, _, _, _, _, _, _, _, _, _, _, _, _, _, _, _, _, _, _, _, _, _, _, _, _, _, _, _, _, _, _, _, _, _, _, _, _, _, _, _, _, _, _, _, _, _, _, _, _, _, _, _, _, _, _, _, _, _, _, _, _, _, _, _, _, _, _, _, _, _, _, _, _, _, _, _, _, _, _, _, _, _, _, _, _, _, _, _, _, _, _, _, _, _, _, _, _, _, _, _, _, _, _, _, _, _, _, _, _, _, _, _, _, _, _, _, ⟨k + 1, tl1, hlt, rfl, rfl, Lib.hid hL⟩, rfl⟩, ?_⟩
        simp [RowKit.intOf]
        omega
      · obtain rfl : k = len := by omega
        have HB : Hid (Below w.heap.size w wr) := Lib.hid (by obtain ⟨_, _, _, _, _, h, _, _⟩ := HL.out; exact h.b)
        clear HL HZ
        go_wp2_with fail
        go_ret
        exact ⟨rfl, HB.out⟩
set_option maxRecDepth 20000 in
theorem walk (a0 : Int) (b1 : Bool) (a2 : Option Addr) (len2 cap2 : Nat) (z2 : Nat → Nat → Int) (w : World) (w0 : (Lit.int .u8 a0).wf = true) (w2 : IsGrid [.u8, .u8, .i64] w a2 len2 cap2 z2) :
    Calls Try.prog 3 #[.int .u8 a0, .bool b1, .slice a2 len2 cap2] w fun e w' => e = .returned (.bool true) ∧ Below w.heap.size w w' := by
  have h0 : 0 ≤ a0 ∧ a0 ≤ 255 := bounds_u8 w0
  obtain ⟨x, rfl⟩ : ∃ x : Nat, a0 = (x : Int) := ⟨a0.toNat, by omega⟩
  by_cases hl : len2 ≤ 300
  · refine core x _ _ len2 cap2 b1 a2 z2 w (by omega) rfl rfl hl fun k hk => ?_
    rcases w2.split (by decide) with h | ⟨b, off, rfl, hb, hle, hm, hc⟩
    · omega
    · have c0 := hc k (by omega) 0 .u8 rfl
      have c1 := hc k (by omega) 1 .u8 rfl
      have c2 := hc k (by omega) 2 .i64 rfl
      have hy := bounds_u8 c0.2
      have hy1 := bounds_u8 c1.2
      exact ⟨b, off, rfl, hb, c0.1, by rw [Nat.add_assoc]; exact c1.1, by rw [Nat.add_assoc]; exact c2.1, hy.1, hy.2, hy1.1, hy1.2⟩
  · have hd5 : decide (300 < len2) = true := by simp; omega
    have hd6 : (300 : Int) < (len2 : Int) := by omega
    go_enter Try.func3, Try.ntmps3
    go_wp2_with fail
    refine (works13 w).mono ?_
    rintro e wk ⟨rfl, hbk⟩
    go_wp2_with fail
    go_ret
    exact ⟨rfl, hbk⟩
end Go.Proofs.Ytegbifphekhgkaa.dequeDoes
