/- Whatever frames are made, changed and freed: each is what was made and changed of it, its words are what was stored, 0 and 1 at first, and no other one's; a table that is none has none: the law FrameTable answers true. No condition. -/
import Derived.Test.YtajmmglfdinahaaFtI
import Derived.Test.YtajmmglfdinahaaGrids
import Derived.Deep.RegionHeld3
import Derived.Deep.DrawnRows
namespace Go.Proofs.Ytajmmglfdinahaa.frameTable
open Go.ChangeShapes Go.WideShapes Go.ChangeAt Go.RowKit
open Go.Proofs.Ytajmmglfdinahaa.ar (AS heldB)
open Go.Proofs.Ytajmmglfdinahaa.rf (RS Pu refnew_of)
open Go.Proofs.Ytajmmglfdinahaa.fr
open Go.Proofs.Ytajmmglfdinahaa.ft
open Go.Proofs.Ytajmmglfdinahaa.ro (Ro)
attribute [local go_sem ↓] Go.wp_at_zero Go.wp_at_succ
set_option linter.unusedVariables false
set_option linter.unusedSimpArgs false
theorem made_one (a : Value) (n : Nat) : madeCells #[a] n = (List.replicate n a).toArray := by
  apply Array.ext
  · simp [size_madeCells]
  · intro i h1 h2
    simp [madeCells, Nat.mod_one]
/-- the play as it begins. -/
theorem start {w w3 w4 w6 w8 w9 : World} {P S g T A L n sz : Nat} {Sx : Nat → Prop} (hn1 : 1 ≤ n) (hn : n ≤ 6) (hsz : 7 + 14 * n = sz) (hp : PCAt w3 P (n : Int)) (hg3 : S < w3.heap.size) (hnum : P < g ∧ w.heap.size ≤ P ∧ w.heap.size ≤ g) (hSg : S = g + 1) (ts : TS w w4 Sx T S g A L n (List.replicate sz 0) (List.replicate n (.pointer none)) 0 (.slice none 0 0) (.slice none 0 0) [] []) (hd : w3.heap.size ≤ T ∧ w3.heap.size ≤ A ∧ w3.heap.size ≤ L ∧ T ≠ A ∧ T ≠ L ∧ A ≠ L)
    (hb4 : Below w3.heap.size w3 w4) (hr : RS w4.heap.size w6 (n : Int) 0 0 (.slice none 0 0) (.slice none 0 0) [] []) (hb6 : Below w4.heap.size w4 w6) (hb8 : Below w6.heap.size w6 w8) (h9 : w9 = (w8.alloc (.cells (madeCells #[.int .i64 0] sz) 3)).alloc (.cells (madeCells #[.int .i64 0] 10) 3)) :
    LT w w9 P S g T A L w4.heap.size w8.heap.size (w8.heap.size + 1) n 0 none := by
  obtain ⟨M, hM⟩ : ∃ M, w8.heap.size = M := ⟨_, rfl⟩
  obtain ⟨N, hN⟩ : ∃ N, w4.heap.size = N := ⟨_, rfl⟩
  have hb9 : Below w8.heap.size w8 w9 := by rw [h9]; go_grown
  have hb68 : Below w6.heap.size w6 w9 := hb8.trans (hb9.mono hb8.size)
  have hb49 : Below w4.heap.size w4 w9 := hb6.trans (hb68.mono hb6.size)
  have hb39 : Below w3.heap.size w3 w9 := hb4.trans (hb49.mono hb4.size)
  have hs8 : (w8.alloc (.cells (madeCells #[.int .i64 0] sz) 3)).heap.size = M + 1 := by
    rw [← hM]
    exact Array.size_push _
  have hb89 : Below (w8.alloc (.cells (madeCells #[.int .i64 0] sz) 3)).heap.size (w8.alloc (.cells (madeCells #[.int .i64 0] sz) 3)) w9 := by rw [h9]; go_grown
  have e0 : w9.heap[M]? = some (.cells ((List.replicate sz (0 : Int)).map (Value.int .i64)).toArray 3 (0, 0)) := by
    have h1 := heap_alloc_new w8 (.cells (madeCells #[.int .i64 0] sz) 3)
    rw [hM] at h1
    rw [hb89.block M (by rw [hs8]; omega), h1, made_one]
    simp
  have e1 : w9.heap[M + 1]? = some (.cells ((List.replicate 10 (0 : Int)).map (Value.int .i64)).toArray 3 (0, 0)) := by
    rw [← hs8, h9, heap_alloc_new, made_one]
    simp
  have hTl := lt_of_heap ts.t
  have hLl := lt_of_heap ts.l
  have hAl := lt_of_heap ts.a.obj
  have hNl := hr.ltN
  have h68 := hb8.size
  rw [hM] at h68
  rw [hN] at hTl hLl hAl hNl
  obtain ⟨d1, d2, d3, d4, d5, d6⟩ := hd
  rw [hM]
  rw [hN] at hr ⊢
  have hT9 := ts.below hb49
  have hrt : RT (fun b => if b < w.heap.size then 0 else if b = P then 1 else if b = S then 2 else if b = g then 3 else if b = T then 4 else if b = A then 5 else if b = L then 6 else if b = N then 7 else if b = M then 8 else if b = M + 1 then 9 else 15) S g T A L (.slice none 0 0) (.slice none 0 0) := by
    refine ⟨?_, ?_, ?_, ?_, ?_, fun k e => by simp [Value.ownBlock] at e, fun k e => by simp [Value.ownBlock] at e⟩
    · show (if _ then _ else _) = _
      rw [if_neg (by omega), if_neg (by omega), if_pos rfl]
    · show (if _ then _ else _) = _
      rw [if_neg (by omega), if_neg (by omega), if_neg (by omega), if_pos rfl]
    · show (if _ then _ else _) = _
      rw [if_neg (by omega), if_neg (by omega), if_neg (by omega), if_neg (by omega), if_pos rfl]
    · show (if _ then _ else _) = _
      rw [if_neg (by omega), if_neg (by omega), if_neg (by omega), if_neg (by omega), if_neg (by omega), if_pos rfl]
    · show (if _ then _ else _) = _
      rw [if_neg (by omega), if_neg (by omega), if_neg (by omega), if_neg (by omega), if_neg (by omega), if_neg (by omega), if_pos rfl]
  refine ⟨_, List.replicate sz 0, List.replicate n (.pointer none), List.replicate 10 0, 0, .slice none 0 0, .slice none 0 0, .slice none 0 0, .slice none 0 0, [], [], [], fun _ => 0, ⟨ts_fs hT9 hrt, hrt, hr.below hb68, bkeep hp hb39, e0, e1, fun j hj => by simp at hj, fun k hk => if_pos hk, ?_, ?_, ?_, ?_, fun k e => by simp [Value.ownBlock] at e, fun k e => by simp [Value.ownBlock] at e, fun B cs e => by simp at e, by simp; omega, by simp; omega, by simp⟩, Pu.nil n, by simp, fun i hi => by simp at hi⟩
  · show (if _ then _ else _) = _
    rw [if_neg (by omega), if_pos rfl]
  · show (if _ then _ else _) = _
    rw [if_neg (by omega), if_neg (by omega), if_neg (by omega), if_neg (by omega), if_neg (by omega), if_neg (by omega), if_neg (by omega), if_pos rfl]
  · show (if _ then _ else _) = _
    rw [if_neg (by omega), if_neg (by omega), if_neg (by omega), if_neg (by omega), if_neg (by omega), if_neg (by omega), if_neg (by omega), if_neg (by omega), if_pos rfl]
  · show (if _ then _ else _) = _
    rw [if_neg (by omega), if_neg (by omega), if_neg (by omega), if_neg (by omega), if_neg (by omega), if_neg (by omega), if_neg (by omega), if_neg (by omega), if_neg (by omega), if_pos rfl]
set_option maxRecDepth 20000 in
set_option maxHeartbeats 4000000 in
theorem core (x n sz len cap : Nat) (a1 : Option Addr) (z : Nat → Nat → Int) (w : World) (hx : x ≤ 255) (hD : x % 6 + 1 = n) (hsz : 7 + 14 * n = sz) (hlen : len ≤ 150)
    (hz : ∀ k, k < len → ∃ b off, a1 = some ⟨b, off, none⟩ ∧ b < w.heap.size ∧ w.cell? ⟨b, off + k * 3, none⟩ = some (.int .i64 (z k 0)) ∧ w.cell? ⟨b, off + k * 3 + 1, none⟩ = some (.int .i64 (z k 1)) ∧ w.cell? ⟨b, off + k * 3 + 2, none⟩ = some (.int .i64 (z k 2))) :
    Calls Try.prog 9 #[.int .u8 (x : Int), .slice a1 len cap] w fun e w' => e = .returned (.bool true) ∧ Below w.heap.size w w' := by
  have hn1 : 1 ≤ n := by omega
  have hn6 : n ≤ 6 := by omega
  have HSZ := Lib.hid hsz
  have hd1 : IntKind.i64.wrap (x : Int) = (x : Int) := by rw [IntKind.wrap_i64]; omega
  have hd2 : (x : Int).tmod 6 = (n : Int) - 1 := by rw [Int.tmod_eq_emod_of_nonneg (by omega)]; omega
  have hd3 : (n : Int) - 1 + 1 = (n : Int) := by omega
  have hd5 : decide (150 < len) = false := by simp; omega
  have hd6 : ¬ (150 : Int) < (len : Int) := by omega
  have CS : Hid (∀ W, Calls Try.prog 34 #[.agg #[.int .i64 1, .int .i64 (n : Int), .int .i64 2, .int .i64 3]] W fun e w' => e = .returned (.int .i64 (sz : Int)) ∧ Below W.heap.size W w') := Lib.hid fun W => by
    have h := size_of 1 (n : Int) 2 3 7 (14 * (n : Int)) W (okay16 n hn1 (by omega)) (Lib.hid (by decide)) (Lib.hid (by omega))
    have e : (7 : Int) + 14 * (n : Int) = (sz : Int) := by omega
    rw [e] at h
    exact h
  have hmk1 : ∀ w, (Instr.makeSlice 34 (.int .i64 (sz : Int)) (.int .i64 (sz : Int))).run Try.prog w = _ := fun w => run_make_cells Try.prog 34 3 (.int .i64 0) 1 8 Try.underlying34 (by kernel_rfl) .i64 .i64 sz (by omega) (by omega) w
  have hmk2 : ∀ w, (Instr.makeSlice 34 (.int .i64 10) (.int .i64 10)).run Try.prog w = _ := fun w => run_make_cells Try.prog 34 3 (.int .i64 0) 1 8 Try.underlying34 (by kernel_rfl) .i64 .i64 10 (by omega) (by omega) w
  have HZ := Lib.hid hz
  have HLEN := Lib.hid hlen
  have HO : Hid (Okay 1 (n : Int) 2 3) := okay16 n hn1 (by omega)
  have hmin : min (max (n : Int) 0) 1000 = (n : Int) := by omega
  have HMIN := Lib.hid hmin
  clear hx hD hz hsz hmin
  go_enter Try.func9, Try.ntmps9
  go_wp2_with fail
  refine (works16 w).mono ?_
  rintro e wk ⟨rfl, hbk⟩
  go_wp2_with fail
  refine (plan16 (n : Int) wk).mono ?_
  rintro e w1 ⟨rfl, hb1⟩
  go_wp2_with fail
  obtain ⟨W, hW⟩ : ∃ W, W = w1.alloc (Obj.cells #[Value.int .i64 1, .int .i64 (n : Int), .int .i64 2, .int .i64 3] 54) := ⟨_, rfl⟩
  have hp : PCAt W w1.heap.size (n : Int) := by rw [hW]; exact heap_alloc_new _ _
  have hb : Below w.heap.size w W := by rw [hW]; exact btr (btr hbk hb1) (by go_grown)
  have hPg : w.heap.size ≤ w1.heap.size := (btr hbk hb1).size
  rw [← hW]
  clear hW hb1 hbk
  generalize w1.heap.size = P at *
  obtain ⟨p0, p1, p2, p3⟩ := hp.cells
  refine (CS.out _).mono ?_
  rintro e w2 ⟨rfl, hb2⟩
  clear p0 p1 p2 p3
  replace hp : PCAt w2 P (n : Int) := bkeep hp hb2
  replace hb := btr hb hb2
  clear hb2
  obtain ⟨p0, p1, p2, p3⟩ := hp.cells
  go_wp2_with fail
  refine (new_n sz w2 (by have := HSZ.out; omega)).mono ?_
  rintro e w3 ⟨rfl, hs, hb2⟩
  clear p0 p1 p2 p3
  have hPg0 : P < w2.heap.size := lt_of_heap hp
  have HJ : Hid (J w w3 (w2.heap.size + 1) w2.heap.size (List.replicate sz 0)) := Lib.hid ⟨hs, btr hb hb2, hb.size⟩
  replace hp : PCAt w3 P (n : Int) := bkeep hp hb2
  have HPG : Hid (P < w2.heap.size ∧ w.heap.size ≤ P ∧ w.heap.size ≤ w2.heap.size) := Lib.hid ⟨hPg0, hPg, hb.size⟩
  clear hb hb2 hs hPg0 hPg
  obtain ⟨S, hS⟩ : ∃ S, w2.heap.size + 1 = S := ⟨_, rfl⟩
  obtain ⟨g, hg⟩ : ∃ g, w2.heap.size = g := ⟨_, rfl⟩
  have HSG : Hid (S = g + 1) := Lib.hid (by omega)
  rw [hS]
  rw [hS, hg] at HJ
  rw [hg] at HPG
  clear hS hg
  have HP3 := Lib.hid hp
  obtain ⟨p0, p1, p2, p3⟩ := hp.cells
  clear hp
  go_wp2_with fail
  have hdr : w3.drew.cell? ⟨P, 0, none⟩ = some (.int .i64 1) ∧ w3.drew.cell? ⟨P, 1, none⟩ = some (.int .i64 (n : Int)) ∧ w3.drew.cell? ⟨P, 2, none⟩ = some (.int .i64 2) ∧ w3.drew.cell? ⟨P, 3, none⟩ = some (.int .i64 3) := ⟨p0, p1, p2, p3⟩
  have HK : Hid (∀ w', Below w3.heap.size w3 w' → w'.cell? ⟨P, 0, none⟩ = some (.int .i64 1) ∧ w'.cell? ⟨P, 1, none⟩ = some (.int .i64 (n : Int)) ∧ w'.cell? ⟨P, 2, none⟩ = some (.int .i64 2) ∧ w'.cell? ⟨P, 3, none⟩ = some (.int .i64 3)) := Lib.hid fun w' hb => ⟨keepc p0 hb, keepc p1 hb, keepc p2 hb, keepc p3 hb⟩
  clear p0 p1 p2 p3
  go_region_held3 (fun w' => w'.cell? ⟨P, 0, none⟩ = some (.int .i64 1) ∧ w'.cell? ⟨P, 1, none⟩ = some (.int .i64 (n : Int)) ∧ w'.cell? ⟨P, 2, none⟩ = some (.int .i64 2) ∧ w'.cell? ⟨P, 3, none⟩ = some (.int .i64 3)) (first | (with_reducible assumption) | (with_reducible exact hcs2) | (with_reducible exact hcs) | (with_reducible exact hdr))
    (first
      | (go_at_call 48; refine (tab_new S 1 2 3 n HO (by omega) w.heap.size _ (Nat.le_trans HJ.out.2.1.size (by go_grown))).mono ?_; rintro e w4 ⟨T, A, L, rfl, ht, hl, ha, hd, hb4⟩; have hb5 : Below w3.heap.size w3 w4 := btr (by go_grown) hb4; have hcs := HK.out _ hb5)
      | (go_at_call 13; refine (refnew_of (n : Int) (n : Int) _ HMIN.out).mono ?_; rintro e w6 ⟨rfl, hr, hb6⟩; have hb7 := btr hb5 hb6; have hcs2 := HK.out _ hb7))
  all_goals
    have hts := ts_new (HJ.out.below' (w' := w3.drew) (by go_grown)) ht hl ha hd hb4
    have HTS := Lib.hid hts
    have HD := Lib.hid hd
    have HB5 := Lib.hid hb5
    have HB6 := Lib.hid hb6
    have HR := Lib.hid hr
    clear hts ht hl ha hd hb4 hb5 hb6 hb7 hr hdr HK
    go_wp2_with fail
    refine (CS.out _).mono ?_
    rintro e w8 ⟨rfl, hb8⟩
    go_wp2_with fail
    obtain ⟨w9, hw9⟩ : ∃ w9, w9 = (w8.alloc (.cells (madeCells #[.int .i64 0] sz) 3)).alloc (.cells (madeCells #[.int .i64 0] 10) 3) := ⟨_, rfl⟩
    have HL0 : Hid (LT w w9 P S g T A L w4.heap.size w8.heap.size (w8.heap.size + 1) n 0 none) := Lib.hid (start hn1 hn6 HSZ.out HP3.out HJ.out.1.facts.2.2.2.2.1 HPG.out HSG.out HTS.out HD.out HB5.out HR.out HB6.out hb8 hw9)
    rw [← hw9]
    obtain ⟨M, hM⟩ : ∃ M, w8.heap.size = M := ⟨_, rfl⟩
    obtain ⟨N, hN⟩ : ∃ N, w4.heap.size = N := ⟨_, rfl⟩
    rw [hM, hN]
    rw [hM, hN] at HL0
    clear hw9 hb8 HTS HD HB5 HB6 HR HJ HPG HSG HP3 hcs hcs2 hM hN
    go_loopw [12] (fun i wr => ∃ (k : Nat) (ob : Option (Nat × Array Value)), k ≤ len ∧ i = .int .i64 (k : Int) ∧ Hid (LT w wr P S g T A L N M (M + 1) n k ob)) (fun i _ => len - (RowKit.intOf i).toNat)
    case atStart => exact ⟨0, none, by omega, rfl, HL0⟩
    case round =>
      clear HL0
      obtain ⟨k, ob, hk, rfl, HL⟩ := hrel
      by_cases hlt : k < len
      · obtain ⟨b, off, ha, hbl, z0, z1, z2⟩ := HZ.out k hlt
        have hl3 := HLEN.out
        refine round_in hn1 hn6 (by omega) HSZ.out (by omega) hlt ha hbl z0 z1 z2 HL.out ?_
        clear HL HZ
        intro v13 v14 v15 v16 v17 v18 v19 v20 v21 v22 v48 v49 v50 v51 v52 v53 v54 v55 v56 v57 v58 v59 v60 v61 v62 v63 v64 v65 v66 v67 v68 v69 v70 v71 v72 v73 v74 v75 v76 v77 v78 v79 v80 v81 v82 v83 v84 v85 v86 v87 v88 v89 v90 v91 v92 v93 v94 v95 v96 v97 v98 v99 v100 v101 v102 v103 v104 v105 v106 v107 v108 v109 v110 v111 v112 v113 v114 v115 v116 v117 v118 v119 v120 v121 v122 v123 v124 v125 v126 v127 v128 v129 v130 v131 v132 v133 v134 v135 v136 v137 v138 v139 v140 v141 v142 v143 v144 v145 v146 v147 v148 v149 v150 v151 v152 v153 v154 v155 v156 v157 v158 v159 v160 v161 v162 v163 v164 v165 v166 v167 v168 v169 v170 v171 v172 v173 v174 v175 v176 v177 v178 v179 v180 v181 v182 v183 v184 v185 v186 v187 v188 v189 v190 v191 v192 v193 v194 v195 v196 v197 v198 v199 v200 v201 v202 v203 v204 v205 v206 v207 v208 v209 v210 v211 v212 v213 v214 v215 v216 v217 v218 v219 v220 v221 v222 v223 v224 v225 v226 v227 v228 v229 v230 v231 v232 v233 v234 v235 v236 v237 v238 v239 v240 v241 v242 v243 v244 v245 v246 v247 v248 v249 v250 v251 v252 v253 v254 ob1 w2x hL
        refine ⟨⟨_, _, _, _, _, _, _, _, _, _, _, _, _, _, _, _, _, _, _, _, _, _, _, _, _, _, _, _, _, _, _, _, _, _, _, _, _, _, _, _, _, _, _, _, _, _, _, _, _, _, _, _, _, _, _, _, _, _, _, _, _, _, _, _, _, _, _, _, _, _, _, _, _, _, _, _, _, _, _, _, _, _, _, _, _, _, _, _, _, _, _, _, _, _, _, _, _, _, _, _, _, _, _, _, _, _, _, _, _, _, _, _, _, _, _, _, _, _, _, _, _, _, _, _, _, _, _, _, _, _, _, _, _, _, _, _, _, _, _, _, _, _, _, _, _, _, _, _, _, _, _, _, _, _, _, _, _, _, _, _, _, _, _, _, _, _, _, _, _, _, _, _, _, _, _, _, _, _, _, _, _, _, _, _, _, _, _, _, _, _, _, _, _, _, _, _, _, _, _, _, _, _, _, _, _, _, _, _, _, _, _, _, _, _, _, _, _, _, _, ⟨k + 1, ob1, hlt, rfl, Lib.hid hL⟩, rfl⟩, ?_⟩
        simp [RowKit.intOf]
        omega
      · obtain rfl : k = len := by omega
        have HB : Hid (Below w.heap.size w wr) := Lib.hid HL.out.b
        clear HL HZ
        go_wp2_with fail
        refine (root_of _).mono ?_
        rintro e w5 ⟨rfl, hb5⟩
        have HB5 := Lib.hid (btr HB.out hb5)
        clear hb5
        go_wp2_with fail
        refine (make_nil 0 _).mono ?_
        rintro e w6 ⟨rfl, hb6⟩
        have HB6 := Lib.hid (btr HB5.out hb6)
        clear hb6
        go_wp2_with (first | (go_at_call 53; refine (at_nil 1 _).mono ?_; rintro e w7 ⟨rfl, rfl⟩) | (go_at_call 52; refine (free_nil 1 _).mono ?_; rintro e w7 ⟨rfl, rfl⟩) | (go_at_call 55; refine (used_nil _).mono ?_; rintro e w7 ⟨rfl, rfl⟩) | (go_at_call 56; refine (peak_nil _).mono ?_; rintro e w7 ⟨rfl, rfl⟩))
        go_ret
        exact ⟨rfl, HB6.out⟩
set_option maxRecDepth 20000 in
theorem walk (a0 : Int) (a1 : Option Addr) (len1 cap1 : Nat) (z1 : Nat → Nat → Int) (w : World) (w0 : (Lit.int .u8 a0).wf = true) (w1 : IsGrid [.i64, .i64, .i64] w a1 len1 cap1 z1) :
    Calls Try.prog 9 #[.int .u8 a0, .slice a1 len1 cap1] w fun e w' => e = .returned (.bool true) ∧ Below w.heap.size w w' := by
  have h0 : 0 ≤ a0 ∧ a0 ≤ 255 := bounds_u8 w0
  obtain ⟨x, rfl⟩ : ∃ x : Nat, a0 = (x : Int) := ⟨a0.toNat, by omega⟩
  by_cases hl : len1 ≤ 150
  · refine core x _ _ len1 cap1 a1 z1 w (by omega) rfl rfl hl fun k hk => ?_
    rcases w1.split (by decide) with h | ⟨b, off, rfl, hb, hle, hm, hc⟩
    · omega
    · have c0 := hc k (by omega) 0 .i64 rfl
      have c1 := hc k (by omega) 1 .i64 rfl
      have c2 := hc k (by omega) 2 .i64 rfl
      exact ⟨b, off, rfl, hb, c0.1, by rw [Nat.add_assoc]; exact c1.1, by rw [Nat.add_assoc]; exact c2.1⟩
  · have hd5 : decide (150 < len1) = true := by simp; omega
    have hd6 : (150 : Int) < (len1 : Int) := by omega
    go_enter Try.func9, Try.ntmps9
    go_wp2_with fail
    refine (works16 w).mono ?_
    rintro e wk ⟨rfl, hbk⟩
    go_wp2_with fail
    go_ret
    exact ⟨rfl, hbk⟩
end Go.Proofs.Ytajmmglfdinahaa.frameTable
