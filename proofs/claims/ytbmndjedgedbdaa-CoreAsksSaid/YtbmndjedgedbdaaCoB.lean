/- A core that begins: its parts (layer 25). -/
import Derived.Test.YtbmndjedgedbdaaCoA
import Derived.Deep.RegionHeld3
namespace Go.Proofs.Ytbmndjedgedbdaa.co
open Go.ChangeShapes Go.WideShapes Go.ChangeAt Go.RowKit
open Go.Proofs.Ytbmndjedgedbdaa.pr
attribute [local go_sem ↓] Go.wp_at_zero Go.wp_at_succ
attribute [local go_sem] Oper.semAt_some
set_option linter.unusedVariables false
set_option linter.unusedSimpArgs false
def lft : Code → Code
  | .seq a _ => a
  | .cond _ a _ => a
  | .block _ c => c
  | _ => .skip
def rgt : Code → Code
  | .seq _ b => b
  | .cond _ _ b => b
  | _ => .skip
noncomputable def nb : Code := (Try.f8.body).getD .skip
noncomputable def pA : Code := lft (rgt nb)
noncomputable def p4 : Code := lft (rgt (rgt nb))
noncomputable def q5 : Code := rgt (rgt (rgt nb))
noncomputable def p5 : Code := lft q5
noncomputable def p10 : Code := lft (rgt q5)
noncomputable def p15 : Code := lft (rgt (rgt q5))
noncomputable def p16 : Code := lft (rgt (rgt (rgt q5)))
noncomputable def p17 : Code := rgt (rgt (rgt (rgt q5)))
set_option maxRecDepth 20000 in
theorem nb_eq : Try.f8.body = some (.seq (lft nb) (.seq pA (.seq p4 (.seq p5 (.seq p10 (.seq p15 (.seq p16 p17))))))) := by kernel_rfl
theorem bl_al {w V : World} (h : Below w.heap.size w V) (o : Obj) : Below w.heap.size w (V.alloc o) := h.trans (Below.mono (show Below V.heap.size V (V.alloc o) by go_grown) h.size)
theorem bl_tr {w V W : World} (h : Below w.heap.size w V) (h2 : Below V.heap.size V W) : Below w.heap.size w W := h.trans (h2.mono h.size)
theorem heap_new (w : World) (o : Obj) : (w.alloc o).heap[w.heap.size]? = some o := by
  show (w.heap.push _)[w.heap.size]? = _
  simp
theorem heap_newk (w : World) (o : Obj) {k : Nat} (hk : w.heap.size = k) : (w.alloc o).heap[k]? = some o := hk ▸ heap_new w o
theorem bl_blk {w V : World} {k : Nat} {o : Obj} (h : w.heap[k]? = some o) (hb : Below w.heap.size w V) : V.heap[k]? = some o := (hb.block k (lt_of_heap h)).trans h
theorem new_x (n : Nat) (hn : n ≤ 1048576) (w : World) : Calls Try.prog 36 #[.int .i64 n] w fun e w' => ∃ S g, e = .returned (.pointer (some ⟨S, 0, none⟩)) ∧ StoreAt w' S g (List.replicate n 0) ∧ w.heap.size ≤ g ∧ w.heap.size ≤ S ∧ Below w.heap.size w w' := by
  refine (new_n n w hn).mono ?_
  rintro e w' ⟨rfl, h1, h2⟩
  exact ⟨_, _, rfl, h1, Nat.le_refl _, by omega, h2⟩
theorem s8b {P Pq mn : Nat} {a b c d o : Int} {f l : Bool} {w w' : World} (h : w.cell? ⟨P, 0, none⟩ = some (.int .i64 (mn : Int)) ∧ w.cell? ⟨Pq, 0, none⟩ = some (.int .i64 a) ∧ w.cell? ⟨Pq, 1, none⟩ = some (.int .i64 b) ∧ w.cell? ⟨Pq, 2, none⟩ = some (.int .i64 c) ∧ w.cell? ⟨Pq, 3, none⟩ = some (.int .i64 d) ∧ w.cell? ⟨Pq, 4, none⟩ = some (.int .i64 o) ∧ w.cell? ⟨Pq, 5, none⟩ = some (.bool f) ∧ w.cell? ⟨Pq, 6, none⟩ = some (.bool l)) (hb : Below w.heap.size w w') : w'.cell? ⟨P, 0, none⟩ = some (.int .i64 (mn : Int)) ∧ w'.cell? ⟨Pq, 0, none⟩ = some (.int .i64 a) ∧ w'.cell? ⟨Pq, 1, none⟩ = some (.int .i64 b) ∧ w'.cell? ⟨Pq, 2, none⟩ = some (.int .i64 c) ∧ w'.cell? ⟨Pq, 3, none⟩ = some (.int .i64 d) ∧ w'.cell? ⟨Pq, 4, none⟩ = some (.int .i64 o) ∧ w'.cell? ⟨Pq, 5, none⟩ = some (.bool f) ∧ w'.cell? ⟨Pq, 6, none⟩ = some (.bool l) := by
  obtain ⟨h0, h1, h2, h3, h4, h5, h6, h7⟩ := h
  exact ⟨kc h0 hb, kc h1 hb, kc h2 hb, kc h3 hb, kc h4 hb, kc h5 hb, kc h6 hb, kc h7 hb⟩
theorem s8a {P Pq mn : Nat} {a b c d o : Int} {f l : Bool} {w : World} {ob : Obj} (h : w.cell? ⟨P, 0, none⟩ = some (.int .i64 (mn : Int)) ∧ w.cell? ⟨Pq, 0, none⟩ = some (.int .i64 a) ∧ w.cell? ⟨Pq, 1, none⟩ = some (.int .i64 b) ∧ w.cell? ⟨Pq, 2, none⟩ = some (.int .i64 c) ∧ w.cell? ⟨Pq, 3, none⟩ = some (.int .i64 d) ∧ w.cell? ⟨Pq, 4, none⟩ = some (.int .i64 o) ∧ w.cell? ⟨Pq, 5, none⟩ = some (.bool f) ∧ w.cell? ⟨Pq, 6, none⟩ = some (.bool l)) : (w.alloc ob).cell? ⟨P, 0, none⟩ = some (.int .i64 (mn : Int)) ∧ (w.alloc ob).cell? ⟨Pq, 0, none⟩ = some (.int .i64 a) ∧ (w.alloc ob).cell? ⟨Pq, 1, none⟩ = some (.int .i64 b) ∧ (w.alloc ob).cell? ⟨Pq, 2, none⟩ = some (.int .i64 c) ∧ (w.alloc ob).cell? ⟨Pq, 3, none⟩ = some (.int .i64 d) ∧ (w.alloc ob).cell? ⟨Pq, 4, none⟩ = some (.int .i64 o) ∧ (w.alloc ob).cell? ⟨Pq, 5, none⟩ = some (.bool f) ∧ (w.alloc ob).cell? ⟨Pq, 6, none⟩ = some (.bool l) := s8b h (by go_grown)
abbrev zst : Array Value := #[.int .i64 0, .int .i64 0, .int .i64 0, .int .i64 0, .int .i64 0, .int .i64 0, .int .i64 0]
def ccs (a b c d o : Int) (f l : Bool) (fv wv dv tv ov lv sv : Value) (se st wy : Int) : Array Value := #[.int .i64 a, .int .i64 b, .int .i64 c, .int .i64 d, .int .i64 o, .bool f, .bool l, fv, wv, dv, tv, ov, lv, sv, .int .i64 se, .int .i64 st, .int .i64 wy]
def pt (b : Nat) : Value := .pointer (some ⟨b, 0, none⟩)
/-- the parts of a core just made. -/
structure N4 (w W : World) (a b c d o : Int) (f l : Bool) (R mn C Sw gw Sd gd O Lg St : Nat) : Prop where
  hb : Below w.heap.size w W
  ho : W.heap[C]? = some (.cells (ccs a b c d o f l (.slice none 0 0) (pt Sw) (pt Sd) (.pointer none) (pt O) (pt Lg) (pt St) 0 0 0) 89 (0, 0))
  hw : StoreAt W Sw gw (List.replicate R 0)
  hd : StoreAt W Sd gd (List.replicate mn 0)
  hs : W.heap[O]? = some (.cells #[.int .i64 o, .slice none 0 0] 107 (0, 0))
  hl : W.heap[Lg]? = some (.cells #[.slice none 0 0] 110 (0, 0))
  ht : W.heap[St]? = some (.cells zst 61 (0, 0))
  lc : w.heap.size ≤ C
  lw : w.heap.size ≤ Sw ∧ w.heap.size ≤ gw ∧ Sw < Sd ∧ gw < gd ∧ Sw < gd ∧ gw < Sd
  lo : w.heap.size ≤ O ∧ w.heap.size ≤ Lg ∧ w.heap.size ≤ St
  hc : Sw < C ∧ gw < C ∧ Sd < C ∧ gd < C ∧ O < C ∧ Lg < C ∧ St < C
set_option maxRecDepth 20000 in
set_option maxHeartbeats 4000000 in
theorem reg4_of {P Pq mn : Nat} {a b c d o : Int} {f l : Bool} (R : Nat) {u0 u1 u2 u4 u6 u7 u8 u9 u10 u11 u12 u13 u14 u15 u16 u17 u18 u19 u20 u21 u22 u23 u24 u25 u26 u27 u28 u29 u30 u31 u32 u33 u34 u35 u36 u37 u38 u39 u40 u41 u42 u43 u44 u45 u46 u47 u48 u49 u50 u51 u52 u53 u54 u55 u56 u57 u58 u59 u60 u61 u62 u63 u64 u65 u66 u67 u68 u69 u70 u71 u72 u73 u74 u75 u76 u77 u78 u79 u80 u81 u82 u83 u84 u85 u86 : Value} {Q : Exit → Act → World → Prop} {w : World}
    (hO : Hid (Okay a c b d)) (hR : Hid (a * (4 + d) + c * (2 + (b + 1) * 4) = (R : Int))) (o0 : Hid (0 ≤ o)) (o1 : Hid (o ≤ 1000)) (hmn : Hid (mn ≤ 1048576)) (hR2 : Hid (R ≤ 1048576))
    (hS : w.cell? ⟨P, 0, none⟩ = some (.int .i64 (mn : Int)) ∧ w.cell? ⟨Pq, 0, none⟩ = some (.int .i64 a) ∧ w.cell? ⟨Pq, 1, none⟩ = some (.int .i64 b) ∧ w.cell? ⟨Pq, 2, none⟩ = some (.int .i64 c) ∧ w.cell? ⟨Pq, 3, none⟩ = some (.int .i64 d) ∧ w.cell? ⟨Pq, 4, none⟩ = some (.int .i64 o) ∧ w.cell? ⟨Pq, 5, none⟩ = some (.bool f) ∧ w.cell? ⟨Pq, 6, none⟩ = some (.bool l))
    (hN : ∀ (v21 v22 v23 v24 v25 v26 v27 v28 v29 v30 v31 v32 v33 v34 v35 : Value) (W : World) (C Sw gw Sd gd O Lg St : Nat), N4 w W a b c d o f l R mn C Sw gw Sd gd O Lg St → Q .normal ⟨List.toArray (u0 :: u1 :: u2 :: .pointer (some ⟨P, 0, none⟩) :: u4 :: .pointer (some ⟨Pq, 0, none⟩) :: u6 :: u7 :: u8 :: .pointer (some ⟨C, 0, none⟩) :: u10 :: u11 :: u12 :: u13 :: u14 :: u15 :: u16 :: u17 :: u18 :: u19 :: u20 :: v21 :: v22 :: v23 :: v24 :: v25 :: v26 :: v27 :: v28 :: v29 :: v30 :: v31 :: v32 :: v33 :: v34 :: v35 :: u36 :: u37 :: u38 :: u39 :: u40 :: u41 :: u42 :: u43 :: u44 :: u45 :: u46 :: u47 :: u48 :: u49 :: u50 :: u51 :: u52 :: u53 :: u54 :: u55 :: u56 :: u57 :: u58 :: u59 :: u60 :: u61 :: u62 :: u63 :: u64 :: u65 :: u66 :: u67 :: u68 :: u69 :: u70 :: u71 :: u72 :: u73 :: u74 :: u75 :: u76 :: u77 :: u78 :: u79 :: u80 :: u81 :: u82 :: u83 :: u84 :: u85 :: u86 :: []), []⟩ W) : Code.wp Try.prog p4 Q ⟨List.toArray (u0 :: u1 :: u2 :: .pointer (some ⟨P, 0, none⟩) :: u4 :: .pointer (some ⟨Pq, 0, none⟩) :: u6 :: u7 :: u8 :: u9 :: u10 :: u11 :: u12 :: u13 :: u14 :: u15 :: u16 :: u17 :: u18 :: u19 :: u20 :: u21 :: u22 :: u23 :: u24 :: u25 :: u26 :: u27 :: u28 :: u29 :: u30 :: u31 :: u32 :: u33 :: u34 :: u35 :: u36 :: u37 :: u38 :: u39 :: u40 :: u41 :: u42 :: u43 :: u44 :: u45 :: u46 :: u47 :: u48 :: u49 :: u50 :: u51 :: u52 :: u53 :: u54 :: u55 :: u56 :: u57 :: u58 :: u59 :: u60 :: u61 :: u62 :: u63 :: u64 :: u65 :: u66 :: u67 :: u68 :: u69 :: u70 :: u71 :: u72 :: u73 :: u74 :: u75 :: u76 :: u77 :: u78 :: u79 :: u80 :: u81 :: u82 :: u83 :: u84 :: u85 :: u86 :: []), []⟩ w := by
  have HN := Lib.hid hN
  clear hN
  have hS0 : w.drew.cell? ⟨P, 0, none⟩ = some (.int .i64 (mn : Int)) ∧ w.drew.cell? ⟨Pq, 0, none⟩ = some (.int .i64 a) ∧ w.drew.cell? ⟨Pq, 1, none⟩ = some (.int .i64 b) ∧ w.drew.cell? ⟨Pq, 2, none⟩ = some (.int .i64 c) ∧ w.drew.cell? ⟨Pq, 3, none⟩ = some (.int .i64 d) ∧ w.drew.cell? ⟨Pq, 4, none⟩ = some (.int .i64 o) ∧ w.drew.cell? ⟨Pq, 5, none⟩ = some (.bool f) ∧ w.drew.cell? ⟨Pq, 6, none⟩ = some (.bool l) := hS
  have HB0 : Hid (Below w.heap.size w w.drew) := Lib.hid (ghd (Below.refl _ _))
  have C24 := fun W => size_of a c b d (a * (4 + d)) (c * (2 + (b + 1) * 4)) W hO (Lib.hid rfl) (Lib.hid rfl)
  rw [hR.out] at C24
  conv => arg 2; whnf
  have hS1 := fun ob => s8b (w' := (w.alloc ob).drew) hS (ghd (by go_grown))
  have hS2 := fun ob ob2 => s8b (w' := ((w.alloc ob).alloc ob2).drew) hS (ghd (by go_grown))
  clear hS
  go_region_held3 (fun w' => w'.cell? ⟨P, 0, none⟩ = some (.int .i64 (mn : Int)) ∧ w'.cell? ⟨Pq, 0, none⟩ = some (.int .i64 a) ∧ w'.cell? ⟨Pq, 1, none⟩ = some (.int .i64 b) ∧ w'.cell? ⟨Pq, 2, none⟩ = some (.int .i64 c) ∧ w'.cell? ⟨Pq, 3, none⟩ = some (.int .i64 d) ∧ w'.cell? ⟨Pq, 4, none⟩ = some (.int .i64 o) ∧ w'.cell? ⟨Pq, 5, none⟩ = some (.bool f) ∧ w'.cell? ⟨Pq, 6, none⟩ = some (.bool l)) (first | (with_reducible assumption) | (with_reducible exact hS1 _) | (with_reducible exact s8a hS23) | (with_reducible exact s8a hS24) | (with_reducible exact s8a hS25) | (with_reducible exact s8a hS28) | (with_reducible exact s8a hS31) | (with_reducible exact s8a hS32) | (with_reducible exact s8a (s8a hS32)))
    (first
      | (go_at_call 37; (with_reducible refine (plan_v a b c d o f l _).mono ?_); rintro e w23 ⟨rfl, hb23⟩; have hS23 := s8b (by first | (with_reducible exact hS0) | (with_reducible exact hS1 _)) hb23)
      | (go_at_call 20; (with_reducible refine (C24 _).mono ?_); rintro e w24 ⟨rfl, hb24⟩; have hS24 := s8b (by first | (with_reducible exact hS23) | (with_reducible exact s8a hS23)) hb24)
      | (go_at_call 36; (with_reducible refine (new_x R hR2.out _).mono ?_); rintro e w25 ⟨Sw, gw, rfl, hw25, lg25, ls25, hb25⟩; have hS25 := s8b (by first | (with_reducible exact hS24) | (with_reducible exact s8a hS24)) hb25)
      | (go_at_call 36; (with_reducible refine (new_x mn hmn.out _).mono ?_); rintro e w28 ⟨Sd, gd, rfl, hw28, lg28, ls28, hb28⟩; have hS28 := s8b (by first | (with_reducible exact hS25) | (with_reducible exact s8a hS25)) hb28)
      | (go_at_call 38; (with_reducible refine (snew_v o o0.out o1.out _).mono ?_); rintro e w31 ⟨rfl, hw31, hb31⟩; have hS31 := s8b (by first | (with_reducible exact hS28) | (with_reducible exact s8a hS28)) hb31)
      | (go_at_call 39; (with_reducible refine (lnew_v _).mono ?_); rintro e w32 ⟨rfl, hw32, hb32⟩; have hS32 := s8b (by first | (with_reducible exact hS31) | (with_reducible exact s8a hS31)) hb32))
  all_goals
    have hal : ∀ (V : World) (ob : Obj), (V.alloc ob).heap.size = V.heap.size + 1 := fun V ob => by simp
    have hdr : ∀ V : World, V.drew.heap.size = V.heap.size := fun _ => rfl
    have n23 := hb23.size
    have n24 := hb24.size
    have n25 := hb25.size
    have n28 := hb28.size
    have n31 := hb31.size
    have n32 := hb32.size
    have f25 := hw25.facts.2.2.2.2
    have f28 := hw28.facts.2.2.2.2
    have q31 := lt_of_heap hw31
    have q32 := lt_of_heap hw32
    (try simp only [hal, hdr] at n23)
    (try simp only [hal, hdr] at n24)
    (try simp only [hal, hdr] at n25 lg25 ls25)
    (try simp only [hal, hdr] at lg25 ls25)
    (try simp only [hal, hdr] at n28)
    (try simp only [hal, hdr] at lg28 ls28)
    (try simp only [hal, hdr] at n31)
    (try simp only [hal, hdr] at n32)
    (try simp only [hal, hdr] at q31)
    (try simp only [hal, hdr] at q32)
    (try simp only [hal, hdr] at hw31)
    (try simp only [hal, hdr] at hw32)
  · refine HN.out _ _ _ _ _ _ _ _ _ _ _ _ _ _ _ _ (w32.heap.size + 1) Sw gw Sd gd w28.heap.size w31.heap.size w32.heap.size ⟨?_, heap_newk _ _ (by simp), hw25.below ?_, hw28.below ?_, bl_blk hw31 ?_, bl_blk hw32 ?_, bl_blk (w := w32.alloc _) (heap_new _ _) ?_, ?_, ?_, ?_, ?_⟩
    · (repeat (first | (with_reducible exact Below.refl _ _) | (with_reducible exact HB0.out) | (with_reducible exact ghd (Below.refl _ _)) | (with_reducible exact ghd (bl_al (Below.refl _ _) _)) | (with_reducible apply bl_al) | (with_reducible refine bl_tr ?_ hb32) | (with_reducible refine bl_tr ?_ hb31) | (with_reducible refine bl_tr ?_ hb28) | (with_reducible refine bl_tr ?_ hb25) | (with_reducible refine bl_tr ?_ hb24) | (with_reducible refine bl_tr ?_ hb23)))
    · (repeat (first | (with_reducible exact Below.refl _ _) | (with_reducible exact HB0.out) | (with_reducible exact ghd (Below.refl _ _)) | (with_reducible exact ghd (bl_al (Below.refl _ _) _)) | (with_reducible apply bl_al) | (with_reducible refine bl_tr ?_ hb32) | (with_reducible refine bl_tr ?_ hb31) | (with_reducible refine bl_tr ?_ hb28) | (with_reducible refine bl_tr ?_ hb25) | (with_reducible refine bl_tr ?_ hb24) | (with_reducible refine bl_tr ?_ hb23)))
    · (repeat (first | (with_reducible exact Below.refl _ _) | (with_reducible exact HB0.out) | (with_reducible exact ghd (Below.refl _ _)) | (with_reducible exact ghd (bl_al (Below.refl _ _) _)) | (with_reducible apply bl_al) | (with_reducible refine bl_tr ?_ hb32) | (with_reducible refine bl_tr ?_ hb31) | (with_reducible refine bl_tr ?_ hb28) | (with_reducible refine bl_tr ?_ hb25) | (with_reducible refine bl_tr ?_ hb24) | (with_reducible refine bl_tr ?_ hb23)))
    · (repeat (first | (with_reducible exact Below.refl _ _) | (with_reducible exact HB0.out) | (with_reducible exact ghd (Below.refl _ _)) | (with_reducible exact ghd (bl_al (Below.refl _ _) _)) | (with_reducible apply bl_al) | (with_reducible refine bl_tr ?_ hb32) | (with_reducible refine bl_tr ?_ hb31) | (with_reducible refine bl_tr ?_ hb28) | (with_reducible refine bl_tr ?_ hb25) | (with_reducible refine bl_tr ?_ hb24) | (with_reducible refine bl_tr ?_ hb23)))
    · (repeat (first | (with_reducible exact Below.refl _ _) | (with_reducible exact HB0.out) | (with_reducible exact ghd (Below.refl _ _)) | (with_reducible exact ghd (bl_al (Below.refl _ _) _)) | (with_reducible apply bl_al) | (with_reducible refine bl_tr ?_ hb32) | (with_reducible refine bl_tr ?_ hb31) | (with_reducible refine bl_tr ?_ hb28) | (with_reducible refine bl_tr ?_ hb25) | (with_reducible refine bl_tr ?_ hb24) | (with_reducible refine bl_tr ?_ hb23)))
    · (repeat (first | (with_reducible exact Below.refl _ _) | (with_reducible exact HB0.out) | (with_reducible exact ghd (Below.refl _ _)) | (with_reducible exact ghd (bl_al (Below.refl _ _) _)) | (with_reducible apply bl_al) | (with_reducible refine bl_tr ?_ hb32) | (with_reducible refine bl_tr ?_ hb31) | (with_reducible refine bl_tr ?_ hb28) | (with_reducible refine bl_tr ?_ hb25) | (with_reducible refine bl_tr ?_ hb24) | (with_reducible refine bl_tr ?_ hb23)))
    · omega
    · omega
    · omega
    · omega
  · refine HN.out _ _ _ _ _ _ _ _ _ _ _ _ _ _ _ _ (w32.heap.size) Sw gw Sd gd w28.heap.size (w31.heap.size + 1) w31.heap.size ⟨?_, heap_new _ _, hw25.below ?_, hw28.below ?_, bl_blk hw31 ?_, bl_blk hw32 ?_, bl_blk (w := w31.alloc _) (heap_new _ _) ?_, ?_, ?_, ?_, ?_⟩
    · (repeat (first | (with_reducible exact Below.refl _ _) | (with_reducible exact HB0.out) | (with_reducible exact ghd (Below.refl _ _)) | (with_reducible exact ghd (bl_al (Below.refl _ _) _)) | (with_reducible apply bl_al) | (with_reducible refine bl_tr ?_ hb32) | (with_reducible refine bl_tr ?_ hb31) | (with_reducible refine bl_tr ?_ hb28) | (with_reducible refine bl_tr ?_ hb25) | (with_reducible refine bl_tr ?_ hb24) | (with_reducible refine bl_tr ?_ hb23)))
    · (repeat (first | (with_reducible exact Below.refl _ _) | (with_reducible exact HB0.out) | (with_reducible exact ghd (Below.refl _ _)) | (with_reducible exact ghd (bl_al (Below.refl _ _) _)) | (with_reducible apply bl_al) | (with_reducible refine bl_tr ?_ hb32) | (with_reducible refine bl_tr ?_ hb31) | (with_reducible refine bl_tr ?_ hb28) | (with_reducible refine bl_tr ?_ hb25) | (with_reducible refine bl_tr ?_ hb24) | (with_reducible refine bl_tr ?_ hb23)))
    · (repeat (first | (with_reducible exact Below.refl _ _) | (with_reducible exact HB0.out) | (with_reducible exact ghd (Below.refl _ _)) | (with_reducible exact ghd (bl_al (Below.refl _ _) _)) | (with_reducible apply bl_al) | (with_reducible refine bl_tr ?_ hb32) | (with_reducible refine bl_tr ?_ hb31) | (with_reducible refine bl_tr ?_ hb28) | (with_reducible refine bl_tr ?_ hb25) | (with_reducible refine bl_tr ?_ hb24) | (with_reducible refine bl_tr ?_ hb23)))
    · (repeat (first | (with_reducible exact Below.refl _ _) | (with_reducible exact HB0.out) | (with_reducible exact ghd (Below.refl _ _)) | (with_reducible exact ghd (bl_al (Below.refl _ _) _)) | (with_reducible apply bl_al) | (with_reducible refine bl_tr ?_ hb32) | (with_reducible refine bl_tr ?_ hb31) | (with_reducible refine bl_tr ?_ hb28) | (with_reducible refine bl_tr ?_ hb25) | (with_reducible refine bl_tr ?_ hb24) | (with_reducible refine bl_tr ?_ hb23)))
    · (repeat (first | (with_reducible exact Below.refl _ _) | (with_reducible exact HB0.out) | (with_reducible exact ghd (Below.refl _ _)) | (with_reducible exact ghd (bl_al (Below.refl _ _) _)) | (with_reducible apply bl_al) | (with_reducible refine bl_tr ?_ hb32) | (with_reducible refine bl_tr ?_ hb31) | (with_reducible refine bl_tr ?_ hb28) | (with_reducible refine bl_tr ?_ hb25) | (with_reducible refine bl_tr ?_ hb24) | (with_reducible refine bl_tr ?_ hb23)))
    · (repeat (first | (with_reducible exact Below.refl _ _) | (with_reducible exact HB0.out) | (with_reducible exact ghd (Below.refl _ _)) | (with_reducible exact ghd (bl_al (Below.refl _ _) _)) | (with_reducible apply bl_al) | (with_reducible refine bl_tr ?_ hb32) | (with_reducible refine bl_tr ?_ hb31) | (with_reducible refine bl_tr ?_ hb28) | (with_reducible refine bl_tr ?_ hb25) | (with_reducible refine bl_tr ?_ hb24) | (with_reducible refine bl_tr ?_ hb23)))
    · omega
    · omega
    · omega
    · omega
  · refine HN.out _ _ _ _ _ _ _ _ _ _ _ _ _ _ _ _ (w32.heap.size) Sw gw Sd gd (w28.heap.size + 1) w31.heap.size w28.heap.size ⟨?_, heap_new _ _, hw25.below ?_, hw28.below ?_, bl_blk hw31 ?_, bl_blk hw32 ?_, bl_blk (w := w28.alloc _) (heap_new _ _) ?_, ?_, ?_, ?_, ?_⟩
    · (repeat (first | (with_reducible exact Below.refl _ _) | (with_reducible exact HB0.out) | (with_reducible exact ghd (Below.refl _ _)) | (with_reducible exact ghd (bl_al (Below.refl _ _) _)) | (with_reducible apply bl_al) | (with_reducible refine bl_tr ?_ hb32) | (with_reducible refine bl_tr ?_ hb31) | (with_reducible refine bl_tr ?_ hb28) | (with_reducible refine bl_tr ?_ hb25) | (with_reducible refine bl_tr ?_ hb24) | (with_reducible refine bl_tr ?_ hb23)))
    · (repeat (first | (with_reducible exact Below.refl _ _) | (with_reducible exact HB0.out) | (with_reducible exact ghd (Below.refl _ _)) | (with_reducible exact ghd (bl_al (Below.refl _ _) _)) | (with_reducible apply bl_al) | (with_reducible refine bl_tr ?_ hb32) | (with_reducible refine bl_tr ?_ hb31) | (with_reducible refine bl_tr ?_ hb28) | (with_reducible refine bl_tr ?_ hb25) | (with_reducible refine bl_tr ?_ hb24) | (with_reducible refine bl_tr ?_ hb23)))
    · (repeat (first | (with_reducible exact Below.refl _ _) | (with_reducible exact HB0.out) | (with_reducible exact ghd (Below.refl _ _)) | (with_reducible exact ghd (bl_al (Below.refl _ _) _)) | (with_reducible apply bl_al) | (with_reducible refine bl_tr ?_ hb32) | (with_reducible refine bl_tr ?_ hb31) | (with_reducible refine bl_tr ?_ hb28) | (with_reducible refine bl_tr ?_ hb25) | (with_reducible refine bl_tr ?_ hb24) | (with_reducible refine bl_tr ?_ hb23)))
    · (repeat (first | (with_reducible exact Below.refl _ _) | (with_reducible exact HB0.out) | (with_reducible exact ghd (Below.refl _ _)) | (with_reducible exact ghd (bl_al (Below.refl _ _) _)) | (with_reducible apply bl_al) | (with_reducible refine bl_tr ?_ hb32) | (with_reducible refine bl_tr ?_ hb31) | (with_reducible refine bl_tr ?_ hb28) | (with_reducible refine bl_tr ?_ hb25) | (with_reducible refine bl_tr ?_ hb24) | (with_reducible refine bl_tr ?_ hb23)))
    · (repeat (first | (with_reducible exact Below.refl _ _) | (with_reducible exact HB0.out) | (with_reducible exact ghd (Below.refl _ _)) | (with_reducible exact ghd (bl_al (Below.refl _ _) _)) | (with_reducible apply bl_al) | (with_reducible refine bl_tr ?_ hb32) | (with_reducible refine bl_tr ?_ hb31) | (with_reducible refine bl_tr ?_ hb28) | (with_reducible refine bl_tr ?_ hb25) | (with_reducible refine bl_tr ?_ hb24) | (with_reducible refine bl_tr ?_ hb23)))
    · (repeat (first | (with_reducible exact Below.refl _ _) | (with_reducible exact HB0.out) | (with_reducible exact ghd (Below.refl _ _)) | (with_reducible exact ghd (bl_al (Below.refl _ _) _)) | (with_reducible apply bl_al) | (with_reducible refine bl_tr ?_ hb32) | (with_reducible refine bl_tr ?_ hb31) | (with_reducible refine bl_tr ?_ hb28) | (with_reducible refine bl_tr ?_ hb25) | (with_reducible refine bl_tr ?_ hb24) | (with_reducible refine bl_tr ?_ hb23)))
    · omega
    · omega
    · omega
    · omega
  · refine HN.out _ _ _ _ _ _ _ _ _ _ _ _ _ _ _ _ (w32.heap.size) Sw gw Sd gd w28.heap.size w31.heap.size w25.heap.size ⟨?_, heap_new _ _, hw25.below ?_, hw28.below ?_, bl_blk hw31 ?_, bl_blk hw32 ?_, bl_blk (w := w25.alloc _) (heap_new _ _) ?_, ?_, ?_, ?_, ?_⟩
    · (repeat (first | (with_reducible exact Below.refl _ _) | (with_reducible exact HB0.out) | (with_reducible exact ghd (Below.refl _ _)) | (with_reducible exact ghd (bl_al (Below.refl _ _) _)) | (with_reducible apply bl_al) | (with_reducible refine bl_tr ?_ hb32) | (with_reducible refine bl_tr ?_ hb31) | (with_reducible refine bl_tr ?_ hb28) | (with_reducible refine bl_tr ?_ hb25) | (with_reducible refine bl_tr ?_ hb24) | (with_reducible refine bl_tr ?_ hb23)))
    · (repeat (first | (with_reducible exact Below.refl _ _) | (with_reducible exact HB0.out) | (with_reducible exact ghd (Below.refl _ _)) | (with_reducible exact ghd (bl_al (Below.refl _ _) _)) | (with_reducible apply bl_al) | (with_reducible refine bl_tr ?_ hb32) | (with_reducible refine bl_tr ?_ hb31) | (with_reducible refine bl_tr ?_ hb28) | (with_reducible refine bl_tr ?_ hb25) | (with_reducible refine bl_tr ?_ hb24) | (with_reducible refine bl_tr ?_ hb23)))
    · (repeat (first | (with_reducible exact Below.refl _ _) | (with_reducible exact HB0.out) | (with_reducible exact ghd (Below.refl _ _)) | (with_reducible exact ghd (bl_al (Below.refl _ _) _)) | (with_reducible apply bl_al) | (with_reducible refine bl_tr ?_ hb32) | (with_reducible refine bl_tr ?_ hb31) | (with_reducible refine bl_tr ?_ hb28) | (with_reducible refine bl_tr ?_ hb25) | (with_reducible refine bl_tr ?_ hb24) | (with_reducible refine bl_tr ?_ hb23)))
    · (repeat (first | (with_reducible exact Below.refl _ _) | (with_reducible exact HB0.out) | (with_reducible exact ghd (Below.refl _ _)) | (with_reducible exact ghd (bl_al (Below.refl _ _) _)) | (with_reducible apply bl_al) | (with_reducible refine bl_tr ?_ hb32) | (with_reducible refine bl_tr ?_ hb31) | (with_reducible refine bl_tr ?_ hb28) | (with_reducible refine bl_tr ?_ hb25) | (with_reducible refine bl_tr ?_ hb24) | (with_reducible refine bl_tr ?_ hb23)))
    · (repeat (first | (with_reducible exact Below.refl _ _) | (with_reducible exact HB0.out) | (with_reducible exact ghd (Below.refl _ _)) | (with_reducible exact ghd (bl_al (Below.refl _ _) _)) | (with_reducible apply bl_al) | (with_reducible refine bl_tr ?_ hb32) | (with_reducible refine bl_tr ?_ hb31) | (with_reducible refine bl_tr ?_ hb28) | (with_reducible refine bl_tr ?_ hb25) | (with_reducible refine bl_tr ?_ hb24) | (with_reducible refine bl_tr ?_ hb23)))
    · (repeat (first | (with_reducible exact Below.refl _ _) | (with_reducible exact HB0.out) | (with_reducible exact ghd (Below.refl _ _)) | (with_reducible exact ghd (bl_al (Below.refl _ _) _)) | (with_reducible apply bl_al) | (with_reducible refine bl_tr ?_ hb32) | (with_reducible refine bl_tr ?_ hb31) | (with_reducible refine bl_tr ?_ hb28) | (with_reducible refine bl_tr ?_ hb25) | (with_reducible refine bl_tr ?_ hb24) | (with_reducible refine bl_tr ?_ hb23)))
    · omega
    · omega
    · omega
    · omega
  · refine HN.out _ _ _ _ _ _ _ _ _ _ _ _ _ _ _ _ (w32.heap.size) Sw gw Sd gd w28.heap.size w31.heap.size w24.heap.size ⟨?_, heap_new _ _, hw25.below ?_, hw28.below ?_, bl_blk hw31 ?_, bl_blk hw32 ?_, bl_blk (w := w24.alloc _) (heap_new _ _) ?_, ?_, ?_, ?_, ?_⟩
    · (repeat (first | (with_reducible exact Below.refl _ _) | (with_reducible exact HB0.out) | (with_reducible exact ghd (Below.refl _ _)) | (with_reducible exact ghd (bl_al (Below.refl _ _) _)) | (with_reducible apply bl_al) | (with_reducible refine bl_tr ?_ hb32) | (with_reducible refine bl_tr ?_ hb31) | (with_reducible refine bl_tr ?_ hb28) | (with_reducible refine bl_tr ?_ hb25) | (with_reducible refine bl_tr ?_ hb24) | (with_reducible refine bl_tr ?_ hb23)))
    · (repeat (first | (with_reducible exact Below.refl _ _) | (with_reducible exact HB0.out) | (with_reducible exact ghd (Below.refl _ _)) | (with_reducible exact ghd (bl_al (Below.refl _ _) _)) | (with_reducible apply bl_al) | (with_reducible refine bl_tr ?_ hb32) | (with_reducible refine bl_tr ?_ hb31) | (with_reducible refine bl_tr ?_ hb28) | (with_reducible refine bl_tr ?_ hb25) | (with_reducible refine bl_tr ?_ hb24) | (with_reducible refine bl_tr ?_ hb23)))
    · (repeat (first | (with_reducible exact Below.refl _ _) | (with_reducible exact HB0.out) | (with_reducible exact ghd (Below.refl _ _)) | (with_reducible exact ghd (bl_al (Below.refl _ _) _)) | (with_reducible apply bl_al) | (with_reducible refine bl_tr ?_ hb32) | (with_reducible refine bl_tr ?_ hb31) | (with_reducible refine bl_tr ?_ hb28) | (with_reducible refine bl_tr ?_ hb25) | (with_reducible refine bl_tr ?_ hb24) | (with_reducible refine bl_tr ?_ hb23)))
    · (repeat (first | (with_reducible exact Below.refl _ _) | (with_reducible exact HB0.out) | (with_reducible exact ghd (Below.refl _ _)) | (with_reducible exact ghd (bl_al (Below.refl _ _) _)) | (with_reducible apply bl_al) | (with_reducible refine bl_tr ?_ hb32) | (with_reducible refine bl_tr ?_ hb31) | (with_reducible refine bl_tr ?_ hb28) | (with_reducible refine bl_tr ?_ hb25) | (with_reducible refine bl_tr ?_ hb24) | (with_reducible refine bl_tr ?_ hb23)))
    · (repeat (first | (with_reducible exact Below.refl _ _) | (with_reducible exact HB0.out) | (with_reducible exact ghd (Below.refl _ _)) | (with_reducible exact ghd (bl_al (Below.refl _ _) _)) | (with_reducible apply bl_al) | (with_reducible refine bl_tr ?_ hb32) | (with_reducible refine bl_tr ?_ hb31) | (with_reducible refine bl_tr ?_ hb28) | (with_reducible refine bl_tr ?_ hb25) | (with_reducible refine bl_tr ?_ hb24) | (with_reducible refine bl_tr ?_ hb23)))
    · (repeat (first | (with_reducible exact Below.refl _ _) | (with_reducible exact HB0.out) | (with_reducible exact ghd (Below.refl _ _)) | (with_reducible exact ghd (bl_al (Below.refl _ _) _)) | (with_reducible apply bl_al) | (with_reducible refine bl_tr ?_ hb32) | (with_reducible refine bl_tr ?_ hb31) | (with_reducible refine bl_tr ?_ hb28) | (with_reducible refine bl_tr ?_ hb25) | (with_reducible refine bl_tr ?_ hb24) | (with_reducible refine bl_tr ?_ hb23)))
    · omega
    · omega
    · omega
    · omega
  · refine HN.out _ _ _ _ _ _ _ _ _ _ _ _ _ _ _ _ (w32.heap.size) Sw gw Sd gd w28.heap.size w31.heap.size w23.heap.size ⟨?_, heap_new _ _, hw25.below ?_, hw28.below ?_, bl_blk hw31 ?_, bl_blk hw32 ?_, bl_blk (w := w23.alloc _) (heap_new _ _) ?_, ?_, ?_, ?_, ?_⟩
    · (repeat (first | (with_reducible exact Below.refl _ _) | (with_reducible exact HB0.out) | (with_reducible exact ghd (Below.refl _ _)) | (with_reducible exact ghd (bl_al (Below.refl _ _) _)) | (with_reducible apply bl_al) | (with_reducible refine bl_tr ?_ hb32) | (with_reducible refine bl_tr ?_ hb31) | (with_reducible refine bl_tr ?_ hb28) | (with_reducible refine bl_tr ?_ hb25) | (with_reducible refine bl_tr ?_ hb24) | (with_reducible refine bl_tr ?_ hb23)))
    · (repeat (first | (with_reducible exact Below.refl _ _) | (with_reducible exact HB0.out) | (with_reducible exact ghd (Below.refl _ _)) | (with_reducible exact ghd (bl_al (Below.refl _ _) _)) | (with_reducible apply bl_al) | (with_reducible refine bl_tr ?_ hb32) | (with_reducible refine bl_tr ?_ hb31) | (with_reducible refine bl_tr ?_ hb28) | (with_reducible refine bl_tr ?_ hb25) | (with_reducible refine bl_tr ?_ hb24) | (with_reducible refine bl_tr ?_ hb23)))
    · (repeat (first | (with_reducible exact Below.refl _ _) | (with_reducible exact HB0.out) | (with_reducible exact ghd (Below.refl _ _)) | (with_reducible exact ghd (bl_al (Below.refl _ _) _)) | (with_reducible apply bl_al) | (with_reducible refine bl_tr ?_ hb32) | (with_reducible refine bl_tr ?_ hb31) | (with_reducible refine bl_tr ?_ hb28) | (with_reducible refine bl_tr ?_ hb25) | (with_reducible refine bl_tr ?_ hb24) | (with_reducible refine bl_tr ?_ hb23)))
    · (repeat (first | (with_reducible exact Below.refl _ _) | (with_reducible exact HB0.out) | (with_reducible exact ghd (Below.refl _ _)) | (with_reducible exact ghd (bl_al (Below.refl _ _) _)) | (with_reducible apply bl_al) | (with_reducible refine bl_tr ?_ hb32) | (with_reducible refine bl_tr ?_ hb31) | (with_reducible refine bl_tr ?_ hb28) | (with_reducible refine bl_tr ?_ hb25) | (with_reducible refine bl_tr ?_ hb24) | (with_reducible refine bl_tr ?_ hb23)))
    · (repeat (first | (with_reducible exact Below.refl _ _) | (with_reducible exact HB0.out) | (with_reducible exact ghd (Below.refl _ _)) | (with_reducible exact ghd (bl_al (Below.refl _ _) _)) | (with_reducible apply bl_al) | (with_reducible refine bl_tr ?_ hb32) | (with_reducible refine bl_tr ?_ hb31) | (with_reducible refine bl_tr ?_ hb28) | (with_reducible refine bl_tr ?_ hb25) | (with_reducible refine bl_tr ?_ hb24) | (with_reducible refine bl_tr ?_ hb23)))
    · (repeat (first | (with_reducible exact Below.refl _ _) | (with_reducible exact HB0.out) | (with_reducible exact ghd (Below.refl _ _)) | (with_reducible exact ghd (bl_al (Below.refl _ _) _)) | (with_reducible apply bl_al) | (with_reducible refine bl_tr ?_ hb32) | (with_reducible refine bl_tr ?_ hb31) | (with_reducible refine bl_tr ?_ hb28) | (with_reducible refine bl_tr ?_ hb25) | (with_reducible refine bl_tr ?_ hb24) | (with_reducible refine bl_tr ?_ hb23)))
    · omega
    · omega
    · omega
    · omega
  · refine HN.out _ _ _ _ _ _ _ _ _ _ _ _ _ _ _ _ (w32.heap.size) Sw gw Sd gd w28.heap.size w31.heap.size w.heap.size ⟨?_, heap_new _ _, hw25.below ?_, hw28.below ?_, bl_blk hw31 ?_, bl_blk hw32 ?_, bl_blk (w := w.alloc _) (heap_new _ _) ?_, ?_, ?_, ?_, ?_⟩
    · (repeat (first | (with_reducible exact Below.refl _ _) | (with_reducible exact HB0.out) | (with_reducible exact ghd (Below.refl _ _)) | (with_reducible exact ghd (bl_al (Below.refl _ _) _)) | (with_reducible apply bl_al) | (with_reducible refine bl_tr ?_ hb32) | (with_reducible refine bl_tr ?_ hb31) | (with_reducible refine bl_tr ?_ hb28) | (with_reducible refine bl_tr ?_ hb25) | (with_reducible refine bl_tr ?_ hb24) | (with_reducible refine bl_tr ?_ hb23)))
    · (repeat (first | (with_reducible exact Below.refl _ _) | (with_reducible exact HB0.out) | (with_reducible exact ghd (Below.refl _ _)) | (with_reducible exact ghd (bl_al (Below.refl _ _) _)) | (with_reducible apply bl_al) | (with_reducible refine bl_tr ?_ hb32) | (with_reducible refine bl_tr ?_ hb31) | (with_reducible refine bl_tr ?_ hb28) | (with_reducible refine bl_tr ?_ hb25) | (with_reducible refine bl_tr ?_ hb24) | (with_reducible refine bl_tr ?_ hb23)))
    · (repeat (first | (with_reducible exact Below.refl _ _) | (with_reducible exact HB0.out) | (with_reducible exact ghd (Below.refl _ _)) | (with_reducible exact ghd (bl_al (Below.refl _ _) _)) | (with_reducible apply bl_al) | (with_reducible refine bl_tr ?_ hb32) | (with_reducible refine bl_tr ?_ hb31) | (with_reducible refine bl_tr ?_ hb28) | (with_reducible refine bl_tr ?_ hb25) | (with_reducible refine bl_tr ?_ hb24) | (with_reducible refine bl_tr ?_ hb23)))
    · (repeat (first | (with_reducible exact Below.refl _ _) | (with_reducible exact HB0.out) | (with_reducible exact ghd (Below.refl _ _)) | (with_reducible exact ghd (bl_al (Below.refl _ _) _)) | (with_reducible apply bl_al) | (with_reducible refine bl_tr ?_ hb32) | (with_reducible refine bl_tr ?_ hb31) | (with_reducible refine bl_tr ?_ hb28) | (with_reducible refine bl_tr ?_ hb25) | (with_reducible refine bl_tr ?_ hb24) | (with_reducible refine bl_tr ?_ hb23)))
    · (repeat (first | (with_reducible exact Below.refl _ _) | (with_reducible exact HB0.out) | (with_reducible exact ghd (Below.refl _ _)) | (with_reducible exact ghd (bl_al (Below.refl _ _) _)) | (with_reducible apply bl_al) | (with_reducible refine bl_tr ?_ hb32) | (with_reducible refine bl_tr ?_ hb31) | (with_reducible refine bl_tr ?_ hb28) | (with_reducible refine bl_tr ?_ hb25) | (with_reducible refine bl_tr ?_ hb24) | (with_reducible refine bl_tr ?_ hb23)))
    · (repeat (first | (with_reducible exact Below.refl _ _) | (with_reducible exact HB0.out) | (with_reducible exact ghd (Below.refl _ _)) | (with_reducible exact ghd (bl_al (Below.refl _ _) _)) | (with_reducible apply bl_al) | (with_reducible refine bl_tr ?_ hb32) | (with_reducible refine bl_tr ?_ hb31) | (with_reducible refine bl_tr ?_ hb28) | (with_reducible refine bl_tr ?_ hb25) | (with_reducible refine bl_tr ?_ hb24) | (with_reducible refine bl_tr ?_ hb23)))
    · omega
    · omega
    · omega
    · omega
end Go.Proofs.Ytbmndjedgedbdaa.co
