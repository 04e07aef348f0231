/-
  The bound: region 35 of the law.
-/
import Derived.Test.YtnainlemnkfpkaaFbm
import Derived.Deep.CutRange
namespace Go.Proofs.Ytnainlemnkfpkaa
open Go.RowKit
set_option linter.unusedSimpArgs false
set_option linter.unusedVariables false

set_option maxRecDepth 100000 in
set_option maxHeartbeats 80000000 in
theorem bound35 (w : World) (g fo ft6 k c1 c6 AB SK q N nm na : Nat) (am aa : Option Addr) (cm ca ge oe : Nat) (wt : Nat → Int) (al : Int) (s : FS) (mask : Int) (Q : Nat → List Int) (at_ : Nat → Nat) (Ml Al : List Int) (FR1 : Nat) (om oa : Option Nat) (E1 MI Y : Int) (X1 : Int) (W8 : World) (K : Act → World → Prop) (u0 u1 u2 u3 u4 u5 u6 u7 u8 u9 u10 u11 u12 u13 u14 u15 u16 u18 u19 u20 u21 u22 u25 u26 u27 u28 u29 u30 u31 u32 u33 u34 u35 u36 u37 u38 u39 u40 u41 u42 u43 u44 u45 u46 u47 u48 u49 u50 u51 u52 u53 u54 u55 u56 u57 u58 u59 u60 u61 u62 u63 u64 u65 u66 u67 u68 u69 u70 u71 u72 u73 u74 u75 u76 u77 u78 u79 u80 u81 u82 u83 u84 u85 u86 u87 u88 u89 u90 u91 u92 u93 u94 u95 u96 u97 u98 u99 u100 u101 u102 u103 u104 u105 u106 u107 u108 u109 u110 u111 u112 u113 u114 u115 u116 u117 u118 u119 u120 u121 u122 u123 u124 u125 u126 u127 u128 u129 u130 u131 u132 u133 u134 u135 u136 u137 u138 u139 u140 u141 u142 u143 u144 u145 u146 u147 u148 u149 u150 u151 u152 u153 u154 u155 u156 u157 u158 u159 u160 u161 u162 u163 u164 u165 u166 u167 u168 u169 u170 u171 u172 u173 u174 u175 u176 u177 u178 u179 u180 u181 u182 u183 u184 u185 u186 u187 u188 u189 u190 u191 u192 u193 u194 u195 u196 u197 u198 u199 u200 u201 u202 u203 u204 u205 u206 u207 u208 u209 u210 u211 u212 u213 u214 u215 u216 u217 u218 u219 u220 u221 u222 u223 u224 u225 u226 : Value)
    (HFS8 : Hid (FlS w W8 g fo ft6 k c1 c6 AB SK (.slice (some ⟨ge, oe, none⟩) nm cm) (.slice aa na ca) om oa wt al (pkS k wt al (mH mask Q at_) s) (upf at_ q (at_ q + 1)) Ml Al FR1)) (HEL : Hid (∀ W', Below W8.heap.size W8 W' → W'.cell? ⟨ge, oe + N, none⟩ = some (.int .i64 E1))) (HX1 : Hid (X1 = gI Ml N + MI ∧ 0 ≤ X1 ∧ X1 ≤ 300000)) (wx1 : IntKind.i64.wrap (E1 + MI) = X1) (HML : Hid (Ml.length = N + 1)) (HN150 : Hid (N ≤ 150)) (bn1 : (N < nm) = True) (bn2 : ((N : Int) < (nm : Int)) = True) (bn0 : ((0 : Int) ≤ (N : Int)) = True)
    (hK : ∀ (v187 v188 v189 v190 v191 v192 v193 v194 v195 v196 v197 v198 : Value) (wx : World) (v' : Value) (o' : Nat), FlS w wx g fo ft6 k c1 c6 AB SK v' (.slice aa na ca) (some o') oa wt al (pkS k wt al (mH mask Q at_) s) (upf at_ q (at_ q + 1)) (Ml ++ [gI Ml N + MI]) Al FR1 → K { tmps := List.toArray (u0 :: u1 :: u2 :: u3 :: u4 :: u5 :: u6 :: u7 :: u8 :: u9 :: u10 :: u11 :: u12 :: u13 :: u14 :: u15 :: u16 :: .pointer (some ⟨SK, 0, none⟩) :: u18 :: u19 :: u20 :: u21 :: u22 :: .int .i64 (N : Int) :: .int .i64 MI :: u25 :: u26 :: u27 :: u28 :: u29 :: u30 :: u31 :: u32 :: u33 :: u34 :: u35 :: u36 :: u37 :: u38 :: u39 :: u40 :: u41 :: u42 :: u43 :: u44 :: u45 :: u46 :: u47 :: u48 :: u49 :: u50 :: u51 :: u52 :: u53 :: u54 :: u55 :: u56 :: u57 :: u58 :: u59 :: u60 :: u61 :: u62 :: u63 :: u64 :: u65 :: u66 :: u67 :: u68 :: u69 :: u70 :: u71 :: u72 :: u73 :: u74 :: u75 :: u76 :: u77 :: u78 :: u79 :: u80 :: u81 :: u82 :: u83 :: u84 :: u85 :: u86 :: u87 :: u88 :: u89 :: u90 :: u91 :: u92 :: u93 :: u94 :: u95 :: u96 :: u97 :: u98 :: u99 :: u100 :: u101 :: u102 :: u103 :: u104 :: u105 :: u106 :: u107 :: u108 :: u109 :: u110 :: u111 :: u112 :: u113 :: u114 :: u115 :: u116 :: u117 :: u118 :: u119 :: u120 :: u121 :: u122 :: u123 :: u124 :: u125 :: u126 :: u127 :: u128 :: u129 :: u130 :: u131 :: u132 :: u133 :: u134 :: u135 :: u136 :: u137 :: u138 :: u139 :: u140 :: u141 :: u142 :: u143 :: u144 :: u145 :: u146 :: u147 :: u148 :: u149 :: u150 :: u151 :: u152 :: u153 :: u154 :: u155 :: u156 :: u157 :: u158 :: u159 :: u160 :: u161 :: u162 :: u163 :: u164 :: u165 :: u166 :: u167 :: u168 :: u169 :: u170 :: u171 :: u172 :: u173 :: u174 :: u175 :: u176 :: u177 :: u178 :: u179 :: u180 :: u181 :: u182 :: u183 :: u184 :: u185 :: u186 :: v187 :: v188 :: v189 :: v190 :: v191 :: v192 :: v193 :: v194 :: v195 :: v196 :: v197 :: v198 :: u199 :: u200 :: u201 :: u202 :: u203 :: u204 :: u205 :: u206 :: u207 :: u208 :: u209 :: u210 :: u211 :: u212 :: u213 :: u214 :: u215 :: u216 :: u217 :: u218 :: u219 :: u220 :: u221 :: u222 :: u223 :: u224 :: u225 :: u226 :: []), defers := [] } wx) :
    Code.wp Try.prog (regN 35 Try.f6) (Exit.then K (fun _ _ _ => False)) { tmps := List.toArray (u0 :: u1 :: u2 :: u3 :: u4 :: u5 :: u6 :: u7 :: u8 :: u9 :: u10 :: u11 :: u12 :: u13 :: u14 :: u15 :: u16 :: .pointer (some ⟨SK, 0, none⟩) :: u18 :: u19 :: u20 :: u21 :: u22 :: .int .i64 (N : Int) :: .int .i64 MI :: u25 :: u26 :: u27 :: u28 :: u29 :: u30 :: u31 :: u32 :: u33 :: u34 :: u35 :: u36 :: u37 :: u38 :: u39 :: u40 :: u41 :: u42 :: u43 :: u44 :: u45 :: u46 :: u47 :: u48 :: u49 :: u50 :: u51 :: u52 :: u53 :: u54 :: u55 :: u56 :: u57 :: u58 :: u59 :: u60 :: u61 :: u62 :: u63 :: u64 :: u65 :: u66 :: u67 :: u68 :: u69 :: u70 :: u71 :: u72 :: u73 :: u74 :: u75 :: u76 :: u77 :: u78 :: u79 :: u80 :: u81 :: u82 :: u83 :: u84 :: u85 :: u86 :: u87 :: u88 :: u89 :: u90 :: u91 :: u92 :: u93 :: u94 :: u95 :: u96 :: u97 :: u98 :: u99 :: u100 :: u101 :: u102 :: u103 :: u104 :: u105 :: u106 :: u107 :: u108 :: u109 :: u110 :: u111 :: u112 :: u113 :: u114 :: u115 :: u116 :: u117 :: u118 :: u119 :: u120 :: u121 :: u122 :: u123 :: u124 :: u125 :: u126 :: u127 :: u128 :: u129 :: u130 :: u131 :: u132 :: u133 :: u134 :: u135 :: u136 :: u137 :: u138 :: u139 :: u140 :: u141 :: u142 :: u143 :: u144 :: u145 :: u146 :: u147 :: u148 :: u149 :: u150 :: u151 :: u152 :: u153 :: u154 :: u155 :: u156 :: u157 :: u158 :: u159 :: u160 :: u161 :: u162 :: u163 :: u164 :: u165 :: u166 :: u167 :: u168 :: u169 :: u170 :: u171 :: u172 :: u173 :: u174 :: u175 :: u176 :: u177 :: u178 :: u179 :: u180 :: u181 :: u182 :: u183 :: u184 :: u185 :: u186 :: u187 :: u188 :: u189 :: u190 :: u191 :: u192 :: u193 :: u194 :: u195 :: u196 :: u197 :: u198 :: u199 :: u200 :: u201 :: u202 :: u203 :: u204 :: u205 :: u206 :: u207 :: u208 :: u209 :: u210 :: u211 :: u212 :: u213 :: u214 :: u215 :: u216 :: u217 :: u218 :: u219 :: u220 :: u221 :: u222 :: u223 :: u224 :: u225 :: u226 :: []), defers := [] } W8 := by
  change Code.wp _ (Code.region 35 _ _) _ { tmps := List.toArray (u0 :: u1 :: u2 :: u3 :: u4 :: u5 :: u6 :: u7 :: u8 :: u9 :: u10 :: u11 :: u12 :: u13 :: u14 :: u15 :: u16 :: .pointer (some ⟨SK, 0, none⟩) :: u18 :: u19 :: u20 :: u21 :: u22 :: .int .i64 (N : Int) :: .int .i64 MI :: u25 :: u26 :: u27 :: u28 :: u29 :: u30 :: u31 :: u32 :: u33 :: u34 :: u35 :: u36 :: u37 :: u38 :: u39 :: u40 :: u41 :: u42 :: u43 :: u44 :: u45 :: u46 :: u47 :: u48 :: u49 :: u50 :: u51 :: u52 :: u53 :: u54 :: u55 :: u56 :: u57 :: u58 :: u59 :: u60 :: u61 :: u62 :: u63 :: u64 :: u65 :: u66 :: u67 :: u68 :: u69 :: u70 :: u71 :: u72 :: u73 :: u74 :: u75 :: u76 :: u77 :: u78 :: u79 :: u80 :: u81 :: u82 :: u83 :: u84 :: u85 :: u86 :: u87 :: u88 :: u89 :: u90 :: u91 :: u92 :: u93 :: u94 :: u95 :: u96 :: u97 :: u98 :: u99 :: u100 :: u101 :: u102 :: u103 :: u104 :: u105 :: u106 :: u107 :: u108 :: u109 :: u110 :: u111 :: u112 :: u113 :: u114 :: u115 :: u116 :: u117 :: u118 :: u119 :: u120 :: u121 :: u122 :: u123 :: u124 :: u125 :: u126 :: u127 :: u128 :: u129 :: u130 :: u131 :: u132 :: u133 :: u134 :: u135 :: u136 :: u137 :: u138 :: u139 :: u140 :: u141 :: u142 :: u143 :: u144 :: u145 :: u146 :: u147 :: u148 :: u149 :: u150 :: u151 :: u152 :: u153 :: u154 :: u155 :: u156 :: u157 :: u158 :: u159 :: u160 :: u161 :: u162 :: u163 :: u164 :: u165 :: u166 :: u167 :: u168 :: u169 :: u170 :: u171 :: u172 :: u173 :: u174 :: u175 :: u176 :: u177 :: u178 :: u179 :: u180 :: u181 :: u182 :: u183 :: u184 :: u185 :: u186 :: u187 :: u188 :: u189 :: u190 :: u191 :: u192 :: u193 :: u194 :: u195 :: u196 :: u197 :: u198 :: u199 :: u200 :: u201 :: u202 :: u203 :: u204 :: u205 :: u206 :: u207 :: u208 :: u209 :: u210 :: u211 :: u212 :: u213 :: u214 :: u215 :: u216 :: u217 :: u218 :: u219 :: u220 :: u221 :: u222 :: u223 :: u224 :: u225 :: u226 :: []), defers := [] } W8
  have HKK := Lib.hid hK
  clear hK
  refine wp_region_held_drew (S := fun _ => True) (by kernel_rfl) trivial (fun hHeld => ?_)
  try simp only [Act.put, List.setIfInBounds_toArray, List.set_cons_zero, List.set_cons_succ]
  have HFZ := Lib.hid (HFS8.out.step (W' := W8.drew) (belowN (Below.refl W8.heap.size W8) 1))
  ((refine wpAnyH_take (i := 0) (v := ?_) (by (simp only [List.getElem?_toArray, List.getElem?_cons_succ, List.getElem?_cons_zero]); rfl) (by kernel_rfl) (by kernel_rfl) (by kernel_rfl) (by exact fun _ _ _ h => h) (Or.inl ⟨by rfl, ?_⟩) (by assumption) ?_); rotate_left; focus (intro wS hSw; (try dsimp only at hSw); go_simp; first | done | with_reducible rfl); try simp only [Act.put, List.setIfInBounds_toArray, List.set_cons_zero, List.set_cons_succ])
  ((refine wpAnyH_take (i := 2) (v := ?_) (by (simp only [List.getElem?_toArray, List.getElem?_cons_succ, List.getElem?_cons_zero]); rfl) (by kernel_rfl) (by kernel_rfl) (by kernel_rfl) (by exact fun _ _ _ h => h) (Or.inl ⟨by rfl, ?_⟩) (by assumption) ?_); rotate_left; focus (intro wS hSw; (try dsimp only at hSw); go_simp; first | done | with_reducible rfl); try simp only [Act.put, List.setIfInBounds_toArray, List.set_cons_zero, List.set_cons_succ])
  ((refine wpAnyH_take (i := 4) (v := ?_) (by (simp only [List.getElem?_toArray, List.getElem?_cons_succ, List.getElem?_cons_zero]); rfl) (by kernel_rfl) (by kernel_rfl) (by kernel_rfl) (by exact fun _ _ _ h => h) (Or.inl ⟨by rfl, ?_⟩) (by assumption) ?_); rotate_left; focus (intro wS hSw; (try dsimp only at hSw); go_simp; first | done | with_reducible rfl); try simp only [Act.put, List.setIfInBounds_toArray, List.set_cons_zero, List.set_cons_succ])
  ((refine wpAnyH_take (i := 7) (v := ?_) (by (simp only [List.getElem?_toArray, List.getElem?_cons_succ, List.getElem?_cons_zero]); rfl) (by kernel_rfl) (by kernel_rfl) (by kernel_rfl) (by exact fun _ _ _ h => h) (Or.inl ⟨by rfl, ?_⟩) (by assumption) ?_); rotate_left; focus (intro wS hSw; (try dsimp only at hSw); go_simp; first | done | with_reducible rfl); try simp only [Act.put, List.setIfInBounds_toArray, List.set_cons_zero, List.set_cons_succ])
  refine wpAnyH_ready (rs := [1, 3]) (by kernel_rfl) (by simp) ?_
  refine AllReadyH.cons (by (simp only [List.getElem?_toArray, List.getElem?_cons_succ, List.getElem?_cons_zero]); rfl) (fun K hK => ?_) (AllReadyH.cons (by (simp only [List.getElem?_toArray, List.getElem?_cons_succ, List.getElem?_cons_zero]); rfl) (fun K hK => ?_) (AllReadyH.nil))
  · skip
    have x0 : W8.drew.cell? ⟨SK, 0, none⟩ = some (.slice (some ⟨ge, oe, none⟩) nm cm) := cell_at HFZ.out.sb 0
    go_simp
    (first | refine hK.out _ _ trivial (fun hHeld => ?_) | refine hK _ _ trivial (fun hHeld => ?_))
    clear hK K x0
    try simp only [Act.put, List.setIfInBounds_toArray, List.set_cons_zero, List.set_cons_succ]
    refine wpAnyH_ready (rs := [3]) (by kernel_rfl) (by simp) ?_
    refine AllReadyH.cons (by (simp only [List.getElem?_toArray, List.getElem?_cons_succ, List.getElem?_cons_zero]); rfl) (fun K hK => ?_) (AllReadyH.nil)
    have x0 : W8.drew.cell? ⟨SK, 0, none⟩ = some (.slice (some ⟨ge, oe, none⟩) nm cm) := cell_at HFZ.out.sb 0
    go_simp
    (first | refine hK.out _ _ trivial (fun hHeld => ?_) | refine hK _ _ trivial (fun hHeld => ?_))
    clear hK K x0
    try simp only [Act.put, List.setIfInBounds_toArray, List.set_cons_zero, List.set_cons_succ]
    ((refine wpAnyH_take (i := 5) (v := ?_) (by (simp only [List.getElem?_toArray, List.getElem?_cons_succ, List.getElem?_cons_zero]); rfl) (by kernel_rfl) (by kernel_rfl) (by kernel_rfl) (by exact fun _ _ _ h => h) (Or.inl ⟨by rfl, ?_⟩) (by assumption) ?_); rotate_left; focus (intro wS hSw; (try dsimp only at hSw); go_simp; first | done | with_reducible rfl); try simp only [Act.put, List.setIfInBounds_toArray, List.set_cons_zero, List.set_cons_succ])
    refine wpAnyH_ready (rs := [6]) (by kernel_rfl) (by simp) ?_
    refine AllReadyH.cons (by (simp only [List.getElem?_toArray, List.getElem?_cons_succ, List.getElem?_cons_zero]); rfl) (fun K hK => ?_) (AllReadyH.nil)
    have cy : W8.drew.cell? ⟨ge, oe + N, none⟩ = some (.int .i64 E1) := HEL.out _ (by first | exact belowN (Below.refl _ _) 1 | assumption)
    go_simp
    (first | refine hK.out _ _ trivial (fun hHeld => ?_) | refine hK _ _ trivial (fun hHeld => ?_))
    clear hK K cy
    try simp only [Act.put, List.setIfInBounds_toArray, List.set_cons_zero, List.set_cons_succ]
    ((refine wpAnyH_take (i := 8) (v := ?_) (by (simp only [List.getElem?_toArray, List.getElem?_cons_succ, List.getElem?_cons_zero]); rfl) (by kernel_rfl) (by kernel_rfl) (by kernel_rfl) (by exact fun _ _ _ h => h) (Or.inl ⟨by rfl, ?_⟩) (by assumption) ?_); rotate_left; focus (intro wS hSw; (try dsimp only at hSw); go_simp; first | done | with_reducible rfl); try simp only [Act.put, List.setIfInBounds_toArray, List.set_cons_zero, List.set_cons_succ])
    refine wpAnyH_ready (rs := [9]) (by kernel_rfl) (by simp) ?_
    refine AllReadyH.cons (by (simp only [List.getElem?_toArray, List.getElem?_cons_succ, List.getElem?_cons_zero]); rfl) (fun K hK => ?_) (AllReadyH.nil)
    go_simp
    obtain ⟨NB, hNB⟩ : ∃ N, N = W8.heap.size := ⟨_, rfl⟩
    obtain ⟨WA, hWA⟩ : ∃ W, W = (W8.alloc (.cells #[.int .i64 X1] 3)).drew := ⟨_, rfl⟩
    have k9 : Blk WA NB #[.int .i64 X1] 3 := by rw [hWA, hNB]; exact blk_new W8 _ _
    have hB9 : Below W8.drew.heap.size W8.drew WA := by rw [hWA]; exact alloc_b W8.drew _
    have HFA := Lib.hid (HFZ.out.step hB9)
    have HKA := Lib.hid k9
    rw [← hNB, ← hWA]
    (first | refine hK.out _ _ trivial (fun hHeld => ?_) | refine hK _ _ trivial (fun hHeld => ?_))
    clear hK K k9 hB9 hNB hWA
    try simp only [Act.put, List.setIfInBounds_toArray, List.set_cons_zero, List.set_cons_succ]
    refine wpAnyH_ready (rs := [10]) (by kernel_rfl) (by simp) ?_
    refine AllReadyH.cons (by (simp only [List.getElem?_toArray, List.getElem?_cons_succ, List.getElem?_cons_zero]); rfl) (fun K hK => ?_) (AllReadyH.nil)
    obtain ⟨v5, ob5, WG, hrun, hio, hgr, hs, hlo⟩ := in_grow (M := w.heap.size) (ty := 22) HFA.out.mi HKA.out (by have := HX1.out; omega) HFA.out.b.size (by rw [HML.out]; have := HN150.out; omega)
    have hr5 := hio.1
    obtain ⟨a5, c5, rfl, -, -, -⟩ := hr5.shape
    obtain ⟨LN, hLN⟩ : ∃ l, l = (Ml ++ [X1]).length := ⟨_, rfl⟩
    rw [← hLN] at hrun hio
    have HLN := Lib.hid hLN
    have hb5 := HFA.out.grM hgr
    have HRUN := Lib.hid hrun
    have HB5 := Lib.hid hb5
    have HIO := Lib.hid hio
    have HGR := Lib.hid hgr
    have HS5 := Lib.hid hs
    have HLO := Lib.hid hlo
    clear hrun hio hgr hs hlo hr5 hb5 hLN
    rw [if_pos (by rfl)]
    refine op_append_run (.tmp 188) (.tmp 196) 22 (by kernel_rfl) (by kernel_rfl) (by kernel_rfl) HRUN.out ?_
    (first | refine hK.out _ _ trivial (fun hHeld => ?_) | refine hK _ _ trivial (fun hHeld => ?_))
    clear hK K
    try simp only [Act.put, List.setIfInBounds_toArray, List.set_cons_zero, List.set_cons_succ]
    ((refine wpAnyH_take (i := 11) (v := ?_) (by (simp only [List.getElem?_toArray, List.getElem?_cons_succ, List.getElem?_cons_zero]); rfl) (by kernel_rfl) (by kernel_rfl) (by kernel_rfl) (by exact fun _ _ _ h => h) (Or.inl ⟨by rfl, ?_⟩) (by assumption) ?_); rotate_left; focus (intro wS hSw; (try dsimp only at hSw); go_simp; first | done | with_reducible rfl); try simp only [Act.put, List.setIfInBounds_toArray, List.set_cons_zero, List.set_cons_succ])
    have g0 : WG.cell? ⟨SK, 0, none⟩ = some (.slice (some ⟨ge, oe, none⟩) nm cm) := cell_at HB5.out 0
    have gz : ∀ j, WG.frozen? ⟨SK, j, none⟩ = false := fun j => free_at HB5.out j
    have gl : SK < WG.heap.size := HB5.out.lt
    refine wpAnyH_ready (rs := [12]) (by kernel_rfl) (by simp) ?_
    refine AllReadyH.cons (by (simp only [List.getElem?_toArray, List.getElem?_cons_succ, List.getElem?_cons_zero]); rfl) (fun K hK => ?_) AllReadyH.nil
    generalize hWH' : WG.setCell ⟨SK, 0, none⟩ (.slice a5 LN c5) = WH
    have hWH := hWH'.symm
    clear hWH'
    have HFH := Lib.hid (HFA.out.pushM HIO.out HGR.out HS5.out HLO.out hWH)
    go_simp
    rw [← hWH]
    (first | refine hK.out _ _ trivial (fun hHeld => ?_) | refine hK _ _ trivial (fun hHeld => ?_))
    clear hK K g0 gz gl hWH
    try simp only [Act.put, List.setIfInBounds_toArray, List.set_cons_zero, List.set_cons_succ]
    refine wpAnyH_done (by kernel_rfl) ?_ _
    try simp only [Act.put, List.setIfInBounds_toArray, List.set_cons_zero, List.set_cons_succ]
    go_wp2_with fail
    exact HKK.out _ _ _ _ _ _ _ _ _ _ _ _ _ _ ob5 (by rw [← HX1.out.1]; exact HFH.out)
  · skip
    have x0 : W8.drew.cell? ⟨SK, 0, none⟩ = some (.slice (some ⟨ge, oe, none⟩) nm cm) := cell_at HFZ.out.sb 0
    go_simp
    (first | refine hK.out _ _ trivial (fun hHeld => ?_) | refine hK _ _ trivial (fun hHeld => ?_))
    clear hK K x0
    try simp only [Act.put, List.setIfInBounds_toArray, List.set_cons_zero, List.set_cons_succ]
    ((refine wpAnyH_take (i := 5) (v := ?_) (by (simp only [List.getElem?_toArray, List.getElem?_cons_succ, List.getElem?_cons_zero]); rfl) (by kernel_rfl) (by kernel_rfl) (by kernel_rfl) (by exact fun _ _ _ h => h) (Or.inl ⟨by rfl, ?_⟩) (by assumption) ?_); rotate_left; focus (intro wS hSw; (try dsimp only at hSw); go_simp; first | done | with_reducible rfl); try simp only [Act.put, List.setIfInBounds_toArray, List.set_cons_zero, List.set_cons_succ])
    refine wpAnyH_ready (rs := [1, 6]) (by kernel_rfl) (by simp) ?_
    refine AllReadyH.cons (by (simp only [List.getElem?_toArray, List.getElem?_cons_succ, List.getElem?_cons_zero]); rfl) (fun K hK => ?_) (AllReadyH.cons (by (simp only [List.getElem?_toArray, List.getElem?_cons_succ, List.getElem?_cons_zero]); rfl) (fun K hK => ?_) (AllReadyH.nil))
    · skip
      have x0 : W8.drew.cell? ⟨SK, 0, none⟩ = some (.slice (some ⟨ge, oe, none⟩) nm cm) := cell_at HFZ.out.sb 0
      go_simp
      (first | refine hK.out _ _ trivial (fun hHeld => ?_) | refine hK _ _ trivial (fun hHeld => ?_))
      clear hK K x0
      try simp only [Act.put, List.setIfInBounds_toArray, List.set_cons_zero, List.set_cons_succ]
      refine wpAnyH_ready (rs := [6]) (by kernel_rfl) (by simp) ?_
      refine AllReadyH.cons (by (simp only [List.getElem?_toArray, List.getElem?_cons_succ, List.getElem?_cons_zero]); rfl) (fun K hK => ?_) (AllReadyH.nil)
      have cy : W8.drew.cell? ⟨ge, oe + N, none⟩ = some (.int .i64 E1) := HEL.out _ (by first | exact belowN (Below.refl _ _) 1 | assumption)
      go_simp
      (first | refine hK.out _ _ trivial (fun hHeld => ?_) | refine hK _ _ trivial (fun hHeld => ?_))
      clear hK K cy
      try simp only [Act.put, List.setIfInBounds_toArray, List.set_cons_zero, List.set_cons_succ]
      ((refine wpAnyH_take (i := 8) (v := ?_) (by (simp only [List.getElem?_toArray, List.getElem?_cons_succ, List.getElem?_cons_zero]); rfl) (by kernel_rfl) (by kernel_rfl) (by kernel_rfl) (by exact fun _ _ _ h => h) (Or.inl ⟨by rfl, ?_⟩) (by assumption) ?_); rotate_left; focus (intro wS hSw; (try dsimp only at hSw); go_simp; first | done | with_reducible rfl); try simp only [Act.put, List.setIfInBounds_toArray, List.set_cons_zero, List.set_cons_succ])
      refine wpAnyH_ready (rs := [9]) (by kernel_rfl) (by simp) ?_
      refine AllReadyH.cons (by (simp only [List.getElem?_toArray, List.getElem?_cons_succ, List.getElem?_cons_zero]); rfl) (fun K hK => ?_) (AllReadyH.nil)
      go_simp
      obtain ⟨NB, hNB⟩ : ∃ N, N = W8.heap.size := ⟨_, rfl⟩
      obtain ⟨WA, hWA⟩ : ∃ W, W = (W8.alloc (.cells #[.int .i64 X1] 3)).drew := ⟨_, rfl⟩
      have k9 : Blk WA NB #[.int .i64 X1] 3 := by rw [hWA, hNB]; exact blk_new W8 _ _
      have hB9 : Below W8.drew.heap.size W8.drew WA := by rw [hWA]; exact alloc_b W8.drew _
      have HFA := Lib.hid (HFZ.out.step hB9)
      have HKA := Lib.hid k9
      rw [← hNB, ← hWA]
      (first | refine hK.out _ _ trivial (fun hHeld => ?_) | refine hK _ _ trivial (fun hHeld => ?_))
      clear hK K k9 hB9 hNB hWA
      try simp only [Act.put, List.setIfInBounds_toArray, List.set_cons_zero, List.set_cons_succ]
      refine wpAnyH_ready (rs := [10]) (by kernel_rfl) (by simp) ?_
      refine AllReadyH.cons (by (simp only [List.getElem?_toArray, List.getElem?_cons_succ, List.getElem?_cons_zero]); rfl) (fun K hK => ?_) (AllReadyH.nil)
      obtain ⟨v5, ob5, WG, hrun, hio, hgr, hs, hlo⟩ := in_grow (M := w.heap.size) (ty := 22) HFA.out.mi HKA.out (by have := HX1.out; omega) HFA.out.b.size (by rw [HML.out]; have := HN150.out; omega)
      have hr5 := hio.1
      obtain ⟨a5, c5, rfl, -, -, -⟩ := hr5.shape
      obtain ⟨LN, hLN⟩ : ∃ l, l = (Ml ++ [X1]).length := ⟨_, rfl⟩
      rw [← hLN] at hrun hio
      have HLN := Lib.hid hLN
      have hb5 := HFA.out.grM hgr
      have HRUN := Lib.hid hrun
      have HB5 := Lib.hid hb5
      have HIO := Lib.hid hio
      have HGR := Lib.hid hgr
      have HS5 := Lib.hid hs
      have HLO := Lib.hid hlo
      clear hrun hio hgr hs hlo hr5 hb5 hLN
      rw [if_pos (by rfl)]
      refine op_append_run (.tmp 188) (.tmp 196) 22 (by kernel_rfl) (by kernel_rfl) (by kernel_rfl) HRUN.out ?_
      (first | refine hK.out _ _ trivial (fun hHeld => ?_) | refine hK _ _ trivial (fun hHeld => ?_))
      clear hK K
      try simp only [Act.put, List.setIfInBounds_toArray, List.set_cons_zero, List.set_cons_succ]
      ((refine wpAnyH_take (i := 11) (v := ?_) (by (simp only [List.getElem?_toArray, List.getElem?_cons_succ, List.getElem?_cons_zero]); rfl) (by kernel_rfl) (by kernel_rfl) (by kernel_rfl) (by exact fun _ _ _ h => h) (Or.inl ⟨by rfl, ?_⟩) (by assumption) ?_); rotate_left; focus (intro wS hSw; (try dsimp only at hSw); go_simp; first | done | with_reducible rfl); try simp only [Act.put, List.setIfInBounds_toArray, List.set_cons_zero, List.set_cons_succ])
      have g0 : WG.cell? ⟨SK, 0, none⟩ = some (.slice (some ⟨ge, oe, none⟩) nm cm) := cell_at HB5.out 0
      have gz : ∀ j, WG.frozen? ⟨SK, j, none⟩ = false := fun j => free_at HB5.out j
      have gl : SK < WG.heap.size := HB5.out.lt
      refine wpAnyH_ready (rs := [12]) (by kernel_rfl) (by simp) ?_
      refine AllReadyH.cons (by (simp only [List.getElem?_toArray, List.getElem?_cons_succ, List.getElem?_cons_zero]); rfl) (fun K hK => ?_) AllReadyH.nil
      generalize hWH' : WG.setCell ⟨SK, 0, none⟩ (.slice a5 LN c5) = WH
      have hWH := hWH'.symm
      clear hWH'
      have HFH := Lib.hid (HFA.out.pushM HIO.out HGR.out HS5.out HLO.out hWH)
      go_simp
      rw [← hWH]
      (first | refine hK.out _ _ trivial (fun hHeld => ?_) | refine hK _ _ trivial (fun hHeld => ?_))
      clear hK K g0 gz gl hWH
      try simp only [Act.put, List.setIfInBounds_toArray, List.set_cons_zero, List.set_cons_succ]
      refine wpAnyH_done (by kernel_rfl) ?_ _
      try simp only [Act.put, List.setIfInBounds_toArray, List.set_cons_zero, List.set_cons_succ]
      go_wp2_with fail
      exact HKK.out _ _ _ _ _ _ _ _ _ _ _ _ _ _ ob5 (by rw [← HX1.out.1]; exact HFH.out)
    · skip
      have cy : W8.drew.cell? ⟨ge, oe + N, none⟩ = some (.int .i64 E1) := HEL.out _ (by first | exact belowN (Below.refl _ _) 1 | assumption)
      go_simp
      (first | refine hK.out _ _ trivial (fun hHeld => ?_) | refine hK _ _ trivial (fun hHeld => ?_))
      clear hK K cy
      try simp only [Act.put, List.setIfInBounds_toArray, List.set_cons_zero, List.set_cons_succ]
      ((refine wpAnyH_take (i := 8) (v := ?_) (by (simp only [List.getElem?_toArray, List.getElem?_cons_succ, List.getElem?_cons_zero]); rfl) (by kernel_rfl) (by kernel_rfl) (by kernel_rfl) (by exact fun _ _ _ h => h) (Or.inl ⟨by rfl, ?_⟩) (by assumption) ?_); rotate_left; focus (intro wS hSw; (try dsimp only at hSw); go_simp; first | done | with_reducible rfl); try simp only [Act.put, List.setIfInBounds_toArray, List.set_cons_zero, List.set_cons_succ])
      refine wpAnyH_ready (rs := [1, 9]) (by kernel_rfl) (by simp) ?_
      refine AllReadyH.cons (by (simp only [List.getElem?_toArray, List.getElem?_cons_succ, List.getElem?_cons_zero]); rfl) (fun K hK => ?_) (AllReadyH.cons (by (simp only [List.getElem?_toArray, List.getElem?_cons_succ, List.getElem?_cons_zero]); rfl) (fun K hK => ?_) (AllReadyH.nil))
      · skip
        have x0 : W8.drew.cell? ⟨SK, 0, none⟩ = some (.slice (some ⟨ge, oe, none⟩) nm cm) := cell_at HFZ.out.sb 0
        go_simp
        (first | refine hK.out _ _ trivial (fun hHeld => ?_) | refine hK _ _ trivial (fun hHeld => ?_))
        clear hK K x0
        try simp only [Act.put, List.setIfInBounds_toArray, List.set_cons_zero, List.set_cons_succ]
        refine wpAnyH_ready (rs := [9]) (by kernel_rfl) (by simp) ?_
        refine AllReadyH.cons (by (simp only [List.getElem?_toArray, List.getElem?_cons_succ, List.getElem?_cons_zero]); rfl) (fun K hK => ?_) (AllReadyH.nil)
        go_simp
        obtain ⟨NB, hNB⟩ : ∃ N, N = W8.heap.size := ⟨_, rfl⟩
        obtain ⟨WA, hWA⟩ : ∃ W, W = (W8.alloc (.cells #[.int .i64 X1] 3)).drew := ⟨_, rfl⟩
        have k9 : Blk WA NB #[.int .i64 X1] 3 := by rw [hWA, hNB]; exact blk_new W8 _ _
        have hB9 : Below W8.drew.heap.size W8.drew WA := by rw [hWA]; exact alloc_b W8.drew _
        have HFA := Lib.hid (HFZ.out.step hB9)
        have HKA := Lib.hid k9
        rw [← hNB, ← hWA]
        (first | refine hK.out _ _ trivial (fun hHeld => ?_) | refine hK _ _ trivial (fun hHeld => ?_))
        clear hK K k9 hB9 hNB hWA
        try simp only [Act.put, List.setIfInBounds_toArray, List.set_cons_zero, List.set_cons_succ]
        refine wpAnyH_ready (rs := [10]) (by kernel_rfl) (by simp) ?_
        refine AllReadyH.cons (by (simp only [List.getElem?_toArray, List.getElem?_cons_succ, List.getElem?_cons_zero]); rfl) (fun K hK => ?_) (AllReadyH.nil)
        obtain ⟨v5, ob5, WG, hrun, hio, hgr, hs, hlo⟩ := in_grow (M := w.heap.size) (ty := 22) HFA.out.mi HKA.out (by have := HX1.out; omega) HFA.out.b.size (by rw [HML.out]; have := HN150.out; omega)
        have hr5 := hio.1
        obtain ⟨a5, c5, rfl, -, -, -⟩ := hr5.shape
        obtain ⟨LN, hLN⟩ : ∃ l, l = (Ml ++ [X1]).length := ⟨_, rfl⟩
        rw [← hLN] at hrun hio
        have HLN := Lib.hid hLN
        have hb5 := HFA.out.grM hgr
        have HRUN := Lib.hid hrun
        have HB5 := Lib.hid hb5
        have HIO := Lib.hid hio
        have HGR := Lib.hid hgr
        have HS5 := Lib.hid hs
        have HLO := Lib.hid hlo
        clear hrun hio hgr hs hlo hr5 hb5 hLN
        rw [if_pos (by rfl)]
        refine op_append_run (.tmp 188) (.tmp 196) 22 (by kernel_rfl) (by kernel_rfl) (by kernel_rfl) HRUN.out ?_
        (first | refine hK.out _ _ trivial (fun hHeld => ?_) | refine hK _ _ trivial (fun hHeld => ?_))
        clear hK K
        try simp only [Act.put, List.setIfInBounds_toArray, List.set_cons_zero, List.set_cons_succ]
        ((refine wpAnyH_take (i := 11) (v := ?_) (by (simp only [List.getElem?_toArray, List.getElem?_cons_succ, List.getElem?_cons_zero]); rfl) (by kernel_rfl) (by kernel_rfl) (by kernel_rfl) (by exact fun _ _ _ h => h) (Or.inl ⟨by rfl, ?_⟩) (by assumption) ?_); rotate_left; focus (intro wS hSw; (try dsimp only at hSw); go_simp; first | done | with_reducible rfl); try simp only [Act.put, List.setIfInBounds_toArray, List.set_cons_zero, List.set_cons_succ])
        have g0 : WG.cell? ⟨SK, 0, none⟩ = some (.slice (some ⟨ge, oe, none⟩) nm cm) := cell_at HB5.out 0
        have gz : ∀ j, WG.frozen? ⟨SK, j, none⟩ = false := fun j => free_at HB5.out j
        have gl : SK < WG.heap.size := HB5.out.lt
        refine wpAnyH_ready (rs := [12]) (by kernel_rfl) (by simp) ?_
        refine AllReadyH.cons (by (simp only [List.getElem?_toArray, List.getElem?_cons_succ, List.getElem?_cons_zero]); rfl) (fun K hK => ?_) AllReadyH.nil
        generalize hWH' : WG.setCell ⟨SK, 0, none⟩ (.slice a5 LN c5) = WH
        have hWH := hWH'.symm
        clear hWH'
        have HFH := Lib.hid (HFA.out.pushM HIO.out HGR.out HS5.out HLO.out hWH)
        go_simp
        rw [← hWH]
        (first | refine hK.out _ _ trivial (fun hHeld => ?_) | refine hK _ _ trivial (fun hHeld => ?_))
        clear hK K g0 gz gl hWH
        try simp only [Act.put, List.setIfInBounds_toArray, List.set_cons_zero, List.set_cons_succ]
        refine wpAnyH_done (by kernel_rfl) ?_ _
        try simp only [Act.put, List.setIfInBounds_toArray, List.set_cons_zero, List.set_cons_succ]
        go_wp2_with fail
        exact HKK.out _ _ _ _ _ _ _ _ _ _ _ _ _ _ ob5 (by rw [← HX1.out.1]; exact HFH.out)
      · skip
        go_simp
        obtain ⟨NB, hNB⟩ : ∃ N, N = W8.heap.size := ⟨_, rfl⟩
        obtain ⟨WA, hWA⟩ : ∃ W, W = (W8.alloc (.cells #[.int .i64 X1] 3)).drew := ⟨_, rfl⟩
        have k9 : Blk WA NB #[.int .i64 X1] 3 := by rw [hWA, hNB]; exact blk_new W8 _ _
        have hB9 : Below W8.drew.heap.size W8.drew WA := by rw [hWA]; exact alloc_b W8.drew _
        have HFA := Lib.hid (HFZ.out.step hB9)
        have HKA := Lib.hid k9
        rw [← hNB, ← hWA]
        (first | refine hK.out _ _ trivial (fun hHeld => ?_) | refine hK _ _ trivial (fun hHeld => ?_))
        clear hK K k9 hB9 hNB hWA
        try simp only [Act.put, List.setIfInBounds_toArray, List.set_cons_zero, List.set_cons_succ]
        refine wpAnyH_ready (rs := [1]) (by kernel_rfl) (by simp) ?_
        refine AllReadyH.cons (by (simp only [List.getElem?_toArray, List.getElem?_cons_succ, List.getElem?_cons_zero]); rfl) (fun K hK => ?_) (AllReadyH.nil)
        have x0 : WA.cell? ⟨SK, 0, none⟩ = some (.slice (some ⟨ge, oe, none⟩) nm cm) := cell_at HFA.out.sb 0
        go_simp
        (first | refine hK.out _ _ trivial (fun hHeld => ?_) | refine hK _ _ trivial (fun hHeld => ?_))
        clear hK K x0
        try simp only [Act.put, List.setIfInBounds_toArray, List.set_cons_zero, List.set_cons_succ]
        refine wpAnyH_ready (rs := [10]) (by kernel_rfl) (by simp) ?_
        refine AllReadyH.cons (by (simp only [List.getElem?_toArray, List.getElem?_cons_succ, List.getElem?_cons_zero]); rfl) (fun K hK => ?_) (AllReadyH.nil)
        obtain ⟨v5, ob5, WG, hrun, hio, hgr, hs, hlo⟩ := in_grow (M := w.heap.size) (ty := 22) HFA.out.mi HKA.out (by have := HX1.out; omega) HFA.out.b.size (by rw [HML.out]; have := HN150.out; omega)
        have hr5 := hio.1
        obtain ⟨a5, c5, rfl, -, -, -⟩ := hr5.shape
        obtain ⟨LN, hLN⟩ : ∃ l, l = (Ml ++ [X1]).length := ⟨_, rfl⟩
        rw [← hLN] at hrun hio
        have HLN := Lib.hid hLN
        have hb5 := HFA.out.grM hgr
        have HRUN := Lib.hid hrun
        have HB5 := Lib.hid hb5
        have HIO := Lib.hid hio
        have HGR := Lib.hid hgr
        have HS5 := Lib.hid hs
        have HLO := Lib.hid hlo
        clear hrun hio hgr hs hlo hr5 hb5 hLN
        rw [if_pos (by rfl)]
        refine op_append_run (.tmp 188) (.tmp 196) 22 (by kernel_rfl) (by kernel_rfl) (by kernel_rfl) HRUN.out ?_
        (first | refine hK.out _ _ trivial (fun hHeld => ?_) | refine hK _ _ trivial (fun hHeld => ?_))
        clear hK K
        try simp only [Act.put, List.setIfInBounds_toArray, List.set_cons_zero, List.set_cons_succ]
        ((refine wpAnyH_take (i := 11) (v := ?_) (by (simp only [List.getElem?_toArray, List.getElem?_cons_succ, List.getElem?_cons_zero]); rfl) (by kernel_rfl) (by kernel_rfl) (by kernel_rfl) (by exact fun _ _ _ h => h) (Or.inl ⟨by rfl, ?_⟩) (by assumption) ?_); rotate_left; focus (intro wS hSw; (try dsimp only at hSw); go_simp; first | done | with_reducible rfl); try simp only [Act.put, List.setIfInBounds_toArray, List.set_cons_zero, List.set_cons_succ])
        have g0 : WG.cell? ⟨SK, 0, none⟩ = some (.slice (some ⟨ge, oe, none⟩) nm cm) := cell_at HB5.out 0
        have gz : ∀ j, WG.frozen? ⟨SK, j, none⟩ = false := fun j => free_at HB5.out j
        have gl : SK < WG.heap.size := HB5.out.lt
        refine wpAnyH_ready (rs := [12]) (by kernel_rfl) (by simp) ?_
        refine AllReadyH.cons (by (simp only [List.getElem?_toArray, List.getElem?_cons_succ, List.getElem?_cons_zero]); rfl) (fun K hK => ?_) AllReadyH.nil
        generalize hWH' : WG.setCell ⟨SK, 0, none⟩ (.slice a5 LN c5) = WH
        have hWH := hWH'.symm
        clear hWH'
        have HFH := Lib.hid (HFA.out.pushM HIO.out HGR.out HS5.out HLO.out hWH)
        go_simp
        rw [← hWH]
        (first | refine hK.out _ _ trivial (fun hHeld => ?_) | refine hK _ _ trivial (fun hHeld => ?_))
        clear hK K g0 gz gl hWH
        try simp only [Act.put, List.setIfInBounds_toArray, List.set_cons_zero, List.set_cons_succ]
        refine wpAnyH_done (by kernel_rfl) ?_ _
        try simp only [Act.put, List.setIfInBounds_toArray, List.set_cons_zero, List.set_cons_succ]
        go_wp2_with fail
        exact HKK.out _ _ _ _ _ _ _ _ _ _ _ _ _ _ ob5 (by rw [← HX1.out.1]; exact HFH.out)
set_option maxRecDepth 100000 in
set_option maxHeartbeats 80000000 in
theorem bound36 (w : World) (g fo ft6 k c1 c6 AB SK q N nm na : Nat) (am aa : Option Addr) (cm ca ge oe : Nat) (wt : Nat → Int) (al : Int) (s : FS) (mask : Int) (Q : Nat → List Int) (at_ : Nat → Nat) (Ml Al : List Int) (FR1 : Nat) (om oa : Option Nat) (E1 MI Y : Int) (vm9 : Value) (om9 : Nat) (ML2 : List Int) (X2 : Int) (W9 : World) (K : Act → World → Prop) (u0 u1 u2 u3 u4 u5 u6 u7 u8 u9 u10 u11 u12 u13 u14 u15 u16 u18 u19 u20 u22 u24 u25 u26 u27 u28 u29 u30 u31 u32 u33 u34 u35 u36 u37 u38 u39 u40 u41 u42 u43 u44 u45 u46 u47 u48 u49 u50 u51 u52 u53 u54 u55 u56 u57 u58 u59 u60 u61 u62 u63 u64 u65 u66 u67 u68 u69 u70 u71 u72 u73 u74 u75 u76 u77 u78 u79 u80 u81 u82 u83 u84 u85 u86 u87 u88 u89 u90 u91 u92 u93 u94 u95 u96 u97 u98 u99 u100 u101 u102 u103 u104 u105 u106 u107 u108 u109 u110 u111 u112 u113 u114 u115 u116 u117 u118 u119 u120 u121 u122 u123 u124 u125 u126 u127 u128 u129 u130 u131 u132 u133 u134 u135 u136 u137 u138 u139 u140 u141 u142 u143 u144 u145 u146 u147 u148 u149 u150 u151 u152 u153 u154 u155 u156 u157 u158 u159 u160 u161 u162 u163 u164 u165 u166 u167 u168 u169 u170 u171 u172 u173 u174 u175 u176 u177 u178 u179 u180 u181 u182 u183 u184 u185 u186 u187 u188 u189 u190 u191 u192 u193 u194 u195 u196 u197 u198 u199 u200 u201 u202 u203 u204 u205 u206 u207 u208 u209 u210 u211 u212 u213 u214 u215 u216 u217 u218 u219 u220 u221 u222 u223 u224 u225 u226 : Value)
    (HFS9 : Hid (FlS w W9 g fo ft6 k c1 c6 AB SK vm9 (.slice (some ⟨ge, oe, none⟩) na ca) (some om9) oa wt al (pkS k wt al (mH mask Q at_) s) (upf at_ q (at_ q + 1)) ML2 Al FR1)) (HEL : Hid (∀ W', Below W9.heap.size W9 W' → W'.cell? ⟨ge, oe + N, none⟩ = some (.int .i64 E1))) (HX2 : Hid (X2 = gI Al N + Y ∧ 0 ≤ X2 ∧ X2 ≤ 300000)) (wx2 : IntKind.i64.wrap (E1 + Y) = X2) (HML : Hid (Al.length = N + 1)) (HN150 : Hid (N ≤ 150)) (bn1 : (N < na) = True) (bn2 : ((N : Int) < (na : Int)) = True) (bn0 : ((0 : Int) ≤ (N : Int)) = True)
    (hK : ∀ (v199 v200 v201 v202 v203 v204 v205 v206 v207 v208 v209 v210 : Value) (wx : World) (v' : Value) (o' : Nat), FlS w wx g fo ft6 k c1 c6 AB SK vm9 v' (some om9) (some o') wt al (pkS k wt al (mH mask Q at_) s) (upf at_ q (at_ q + 1)) ML2 (Al ++ [gI Al N + Y]) FR1 → K { tmps := List.toArray (u0 :: u1 :: u2 :: u3 :: u4 :: u5 :: u6 :: u7 :: u8 :: u9 :: u10 :: u11 :: u12 :: u13 :: u14 :: u15 :: u16 :: .pointer (some ⟨SK, 0, none⟩) :: u18 :: u19 :: u20 :: .int .i64 Y :: u22 :: .int .i64 (N : Int) :: u24 :: u25 :: u26 :: u27 :: u28 :: u29 :: u30 :: u31 :: u32 :: u33 :: u34 :: u35 :: u36 :: u37 :: u38 :: u39 :: u40 :: u41 :: u42 :: u43 :: u44 :: u45 :: u46 :: u47 :: u48 :: u49 :: u50 :: u51 :: u52 :: u53 :: u54 :: u55 :: u56 :: u57 :: u58 :: u59 :: u60 :: u61 :: u62 :: u63 :: u64 :: u65 :: u66 :: u67 :: u68 :: u69 :: u70 :: u71 :: u72 :: u73 :: u74 :: u75 :: u76 :: u77 :: u78 :: u79 :: u80 :: u81 :: u82 :: u83 :: u84 :: u85 :: u86 :: u87 :: u88 :: u89 :: u90 :: u91 :: u92 :: u93 :: u94 :: u95 :: u96 :: u97 :: u98 :: u99 :: u100 :: u101 :: u102 :: u103 :: u104 :: u105 :: u106 :: u107 :: u108 :: u109 :: u110 :: u111 :: u112 :: u113 :: u114 :: u115 :: u116 :: u117 :: u118 :: u119 :: u120 :: u121 :: u122 :: u123 :: u124 :: u125 :: u126 :: u127 :: u128 :: u129 :: u130 :: u131 :: u132 :: u133 :: u134 :: u135 :: u136 :: u137 :: u138 :: u139 :: u140 :: u141 :: u142 :: u143 :: u144 :: u145 :: u146 :: u147 :: u148 :: u149 :: u150 :: u151 :: u152 :: u153 :: u154 :: u155 :: u156 :: u157 :: u158 :: u159 :: u160 :: u161 :: u162 :: u163 :: u164 :: u165 :: u166 :: u167 :: u168 :: u169 :: u170 :: u171 :: u172 :: u173 :: u174 :: u175 :: u176 :: u177 :: u178 :: u179 :: u180 :: u181 :: u182 :: u183 :: u184 :: u185 :: u186 :: u187 :: u188 :: u189 :: u190 :: u191 :: u192 :: u193 :: u194 :: u195 :: u196 :: u197 :: u198 :: v199 :: v200 :: v201 :: v202 :: v203 :: v204 :: v205 :: v206 :: v207 :: v208 :: v209 :: v210 :: u211 :: u212 :: u213 :: u214 :: u215 :: u216 :: u217 :: u218 :: u219 :: u220 :: u221 :: u222 :: u223 :: u224 :: u225 :: u226 :: []), defers := [] } wx) :
    Code.wp Try.prog (regN 36 Try.f6) (Exit.then K (fun _ _ _ => False)) { tmps := List.toArray (u0 :: u1 :: u2 :: u3 :: u4 :: u5 :: u6 :: u7 :: u8 :: u9 :: u10 :: u11 :: u12 :: u13 :: u14 :: u15 :: u16 :: .pointer (some ⟨SK, 0, none⟩) :: u18 :: u19 :: u20 :: .int .i64 Y :: u22 :: .int .i64 (N : Int) :: u24 :: u25 :: u26 :: u27 :: u28 :: u29 :: u30 :: u31 :: u32 :: u33 :: u34 :: u35 :: u36 :: u37 :: u38 :: u39 :: u40 :: u41 :: u42 :: u43 :: u44 :: u45 :: u46 :: u47 :: u48 :: u49 :: u50 :: u51 :: u52 :: u53 :: u54 :: u55 :: u56 :: u57 :: u58 :: u59 :: u60 :: u61 :: u62 :: u63 :: u64 :: u65 :: u66 :: u67 :: u68 :: u69 :: u70 :: u71 :: u72 :: u73 :: u74 :: u75 :: u76 :: u77 :: u78 :: u79 :: u80 :: u81 :: u82 :: u83 :: u84 :: u85 :: u86 :: u87 :: u88 :: u89 :: u90 :: u91 :: u92 :: u93 :: u94 :: u95 :: u96 :: u97 :: u98 :: u99 :: u100 :: u101 :: u102 :: u103 :: u104 :: u105 :: u106 :: u107 :: u108 :: u109 :: u110 :: u111 :: u112 :: u113 :: u114 :: u115 :: u116 :: u117 :: u118 :: u119 :: u120 :: u121 :: u122 :: u123 :: u124 :: u125 :: u126 :: u127 :: u128 :: u129 :: u130 :: u131 :: u132 :: u133 :: u134 :: u135 :: u136 :: u137 :: u138 :: u139 :: u140 :: u141 :: u142 :: u143 :: u144 :: u145 :: u146 :: u147 :: u148 :: u149 :: u150 :: u151 :: u152 :: u153 :: u154 :: u155 :: u156 :: u157 :: u158 :: u159 :: u160 :: u161 :: u162 :: u163 :: u164 :: u165 :: u166 :: u167 :: u168 :: u169 :: u170 :: u171 :: u172 :: u173 :: u174 :: u175 :: u176 :: u177 :: u178 :: u179 :: u180 :: u181 :: u182 :: u183 :: u184 :: u185 :: u186 :: u187 :: u188 :: u189 :: u190 :: u191 :: u192 :: u193 :: u194 :: u195 :: u196 :: u197 :: u198 :: u199 :: u200 :: u201 :: u202 :: u203 :: u204 :: u205 :: u206 :: u207 :: u208 :: u209 :: u210 :: u211 :: u212 :: u213 :: u214 :: u215 :: u216 :: u217 :: u218 :: u219 :: u220 :: u221 :: u222 :: u223 :: u224 :: u225 :: u226 :: []), defers := [] } W9 := by
  change Code.wp _ (Code.region 36 _ _) _ { tmps := List.toArray (u0 :: u1 :: u2 :: u3 :: u4 :: u5 :: u6 :: u7 :: u8 :: u9 :: u10 :: u11 :: u12 :: u13 :: u14 :: u15 :: u16 :: .pointer (some ⟨SK, 0, none⟩) :: u18 :: u19 :: u20 :: .int .i64 Y :: u22 :: .int .i64 (N : Int) :: u24 :: u25 :: u26 :: u27 :: u28 :: u29 :: u30 :: u31 :: u32 :: u33 :: u34 :: u35 :: u36 :: u37 :: u38 :: u39 :: u40 :: u41 :: u42 :: u43 :: u44 :: u45 :: u46 :: u47 :: u48 :: u49 :: u50 :: u51 :: u52 :: u53 :: u54 :: u55 :: u56 :: u57 :: u58 :: u59 :: u60 :: u61 :: u62 :: u63 :: u64 :: u65 :: u66 :: u67 :: u68 :: u69 :: u70 :: u71 :: u72 :: u73 :: u74 :: u75 :: u76 :: u77 :: u78 :: u79 :: u80 :: u81 :: u82 :: u83 :: u84 :: u85 :: u86 :: u87 :: u88 :: u89 :: u90 :: u91 :: u92 :: u93 :: u94 :: u95 :: u96 :: u97 :: u98 :: u99 :: u100 :: u101 :: u102 :: u103 :: u104 :: u105 :: u106 :: u107 :: u108 :: u109 :: u110 :: u111 :: u112 :: u113 :: u114 :: u115 :: u116 :: u117 :: u118 :: u119 :: u120 :: u121 :: u122 :: u123 :: u124 :: u125 :: u126 :: u127 :: u128 :: u129 :: u130 :: u131 :: u132 :: u133 :: u134 :: u135 :: u136 :: u137 :: u138 :: u139 :: u140 :: u141 :: u142 :: u143 :: u144 :: u145 :: u146 :: u147 :: u148 :: u149 :: u150 :: u151 :: u152 :: u153 :: u154 :: u155 :: u156 :: u157 :: u158 :: u159 :: u160 :: u161 :: u162 :: u163 :: u164 :: u165 :: u166 :: u167 :: u168 :: u169 :: u170 :: u171 :: u172 :: u173 :: u174 :: u175 :: u176 :: u177 :: u178 :: u179 :: u180 :: u181 :: u182 :: u183 :: u184 :: u185 :: u186 :: u187 :: u188 :: u189 :: u190 :: u191 :: u192 :: u193 :: u194 :: u195 :: u196 :: u197 :: u198 :: u199 :: u200 :: u201 :: u202 :: u203 :: u204 :: u205 :: u206 :: u207 :: u208 :: u209 :: u210 :: u211 :: u212 :: u213 :: u214 :: u215 :: u216 :: u217 :: u218 :: u219 :: u220 :: u221 :: u222 :: u223 :: u224 :: u225 :: u226 :: []), defers := [] } W9
  have HKK := Lib.hid hK
  clear hK
  refine wp_region_held_drew (S := fun _ => True) (by kernel_rfl) trivial (fun hHeld => ?_)
  try simp only [Act.put, List.setIfInBounds_toArray, List.set_cons_zero, List.set_cons_succ]
  have HFZ := Lib.hid (HFS9.out.step (W' := W9.drew) (belowN (Below.refl W9.heap.size W9) 1))
  ((refine wpAnyH_take (i := 0) (v := ?_) (by (simp only [List.getElem?_toArray, List.getElem?_cons_succ, List.getElem?_cons_zero]); rfl) (by kernel_rfl) (by kernel_rfl) (by kernel_rfl) (by exact fun _ _ _ h => h) (Or.inl ⟨by rfl, ?_⟩) (by assumption) ?_); rotate_left; focus (intro wS hSw; (try dsimp only at hSw); go_simp; first | done | with_reducible rfl); try simp only [Act.put, List.setIfInBounds_toArray, List.set_cons_zero, List.set_cons_succ])
  ((refine wpAnyH_take (i := 2) (v := ?_) (by (simp only [List.getElem?_toArray, List.getElem?_cons_succ, List.getElem?_cons_zero]); rfl) (by kernel_rfl) (by kernel_rfl) (by kernel_rfl) (by exact fun _ _ _ h => h) (Or.inl ⟨by rfl, ?_⟩) (by assumption) ?_); rotate_left; focus (intro wS hSw; (try dsimp only at hSw); go_simp; first | done | with_reducible rfl); try simp only [Act.put, List.setIfInBounds_toArray, List.set_cons_zero, List.set_cons_succ])
  ((refine wpAnyH_take (i := 4) (v := ?_) (by (simp only [List.getElem?_toArray, List.getElem?_cons_succ, List.getElem?_cons_zero]); rfl) (by kernel_rfl) (by kernel_rfl) (by kernel_rfl) (by exact fun _ _ _ h => h) (Or.inl ⟨by rfl, ?_⟩) (by assumption) ?_); rotate_left; focus (intro wS hSw; (try dsimp only at hSw); go_simp; first | done | with_reducible rfl); try simp only [Act.put, List.setIfInBounds_toArray, List.set_cons_zero, List.set_cons_succ])
  ((refine wpAnyH_take (i := 7) (v := ?_) (by (simp only [List.getElem?_toArray, List.getElem?_cons_succ, List.getElem?_cons_zero]); rfl) (by kernel_rfl) (by kernel_rfl) (by kernel_rfl) (by exact fun _ _ _ h => h) (Or.inl ⟨by rfl, ?_⟩) (by assumption) ?_); rotate_left; focus (intro wS hSw; (try dsimp only at hSw); go_simp; first | done | with_reducible rfl); try simp only [Act.put, List.setIfInBounds_toArray, List.set_cons_zero, List.set_cons_succ])
  refine wpAnyH_ready (rs := [1, 3]) (by kernel_rfl) (by simp) ?_
  refine AllReadyH.cons (by (simp only [List.getElem?_toArray, List.getElem?_cons_succ, List.getElem?_cons_zero]); rfl) (fun K hK => ?_) (AllReadyH.cons (by (simp only [List.getElem?_toArray, List.getElem?_cons_succ, List.getElem?_cons_zero]); rfl) (fun K hK => ?_) (AllReadyH.nil))
  · skip
    have x0 : W9.drew.cell? ⟨SK, 1, none⟩ = some (.slice (some ⟨ge, oe, none⟩) na ca) := cell_at HFZ.out.sb 1
    go_simp
    (first | refine hK.out _ _ trivial (fun hHeld => ?_) | refine hK _ _ trivial (fun hHeld => ?_))
    clear hK K x0
    try simp only [Act.put, List.setIfInBounds_toArray, List.set_cons_zero, List.set_cons_succ]
    refine wpAnyH_ready (rs := [3]) (by kernel_rfl) (by simp) ?_
    refine AllReadyH.cons (by (simp only [List.getElem?_toArray, List.getElem?_cons_succ, List.getElem?_cons_zero]); rfl) (fun K hK => ?_) (AllReadyH.nil)
    have x0 : W9.drew.cell? ⟨SK, 1, none⟩ = some (.slice (some ⟨ge, oe, none⟩) na ca) := cell_at HFZ.out.sb 1
    go_simp
    (first | refine hK.out _ _ trivial (fun hHeld => ?_) | refine hK _ _ trivial (fun hHeld => ?_))
    clear hK K x0
    try simp only [Act.put, List.setIfInBounds_toArray, List.set_cons_zero, List.set_cons_succ]
    ((refine wpAnyH_take (i := 5) (v := ?_) (by (simp only [List.getElem?_toArray, List.getElem?_cons_succ, List.getElem?_cons_zero]); rfl) (by kernel_rfl) (by kernel_rfl) (by kernel_rfl) (by exact fun _ _ _ h => h) (Or.inl ⟨by rfl, ?_⟩) (by assumption) ?_); rotate_left; focus (intro wS hSw; (try dsimp only at hSw); go_simp; first | done | with_reducible rfl); try simp only [Act.put, List.setIfInBounds_toArray, List.set_cons_zero, List.set_cons_succ])
    refine wpAnyH_ready (rs := [6]) (by kernel_rfl) (by simp) ?_
    refine AllReadyH.cons (by (simp only [List.getElem?_toArray, List.getElem?_cons_succ, List.getElem?_cons_zero]); rfl) (fun K hK => ?_) (AllReadyH.nil)
    have cy : W9.drew.cell? ⟨ge, oe + N, none⟩ = some (.int .i64 E1) := HEL.out _ (by first | exact belowN (Below.refl _ _) 1 | assumption)
    go_simp
    (first | refine hK.out _ _ trivial (fun hHeld => ?_) | refine hK _ _ trivial (fun hHeld => ?_))
    clear hK K cy
    try simp only [Act.put, List.setIfInBounds_toArray, List.set_cons_zero, List.set_cons_succ]
    ((refine wpAnyH_take (i := 8) (v := ?_) (by (simp only [List.getElem?_toArray, List.getElem?_cons_succ, List.getElem?_cons_zero]); rfl) (by kernel_rfl) (by kernel_rfl) (by kernel_rfl) (by exact fun _ _ _ h => h) (Or.inl ⟨by rfl, ?_⟩) (by assumption) ?_); rotate_left; focus (intro wS hSw; (try dsimp only at hSw); go_simp; first | done | with_reducible rfl); try simp only [Act.put, List.setIfInBounds_toArray, List.set_cons_zero, List.set_cons_succ])
    refine wpAnyH_ready (rs := [9]) (by kernel_rfl) (by simp) ?_
    refine AllReadyH.cons (by (simp only [List.getElem?_toArray, List.getElem?_cons_succ, List.getElem?_cons_zero]); rfl) (fun K hK => ?_) (AllReadyH.nil)
    go_simp
    obtain ⟨NB, hNB⟩ : ∃ N, N = W9.heap.size := ⟨_, rfl⟩
    obtain ⟨WA, hWA⟩ : ∃ W, W = (W9.alloc (.cells #[.int .i64 X2] 3)).drew := ⟨_, rfl⟩
    have k9 : Blk WA NB #[.int .i64 X2] 3 := by rw [hWA, hNB]; exact blk_new W9 _ _
    have hB9 : Below W9.drew.heap.size W9.drew WA := by rw [hWA]; exact alloc_b W9.drew _
    have HFA := Lib.hid (HFZ.out.step hB9)
    have HKA := Lib.hid k9
    rw [← hNB, ← hWA]
    (first | refine hK.out _ _ trivial (fun hHeld => ?_) | refine hK _ _ trivial (fun hHeld => ?_))
    clear hK K k9 hB9 hNB hWA
    try simp only [Act.put, List.setIfInBounds_toArray, List.set_cons_zero, List.set_cons_succ]
    refine wpAnyH_ready (rs := [10]) (by kernel_rfl) (by simp) ?_
    refine AllReadyH.cons (by (simp only [List.getElem?_toArray, List.getElem?_cons_succ, List.getElem?_cons_zero]); rfl) (fun K hK => ?_) (AllReadyH.nil)
    obtain ⟨v5, ob5, WG, hrun, hio, hgr, hs, hlo⟩ := in_grow (M := w.heap.size) (ty := 22) HFA.out.ai HKA.out (by have := HX2.out; omega) HFA.out.b.size (by rw [HML.out]; have := HN150.out; omega)
    have hr5 := hio.1
    obtain ⟨a5, c5, rfl, -, -, -⟩ := hr5.shape
    obtain ⟨LN, hLN⟩ : ∃ l, l = (Al ++ [X2]).length := ⟨_, rfl⟩
    rw [← hLN] at hrun hio
    have HLN := Lib.hid hLN
    have hb5 := HFA.out.grA hgr
    have HRUN := Lib.hid hrun
    have HB5 := Lib.hid hb5
    have HIO := Lib.hid hio
    have HGR := Lib.hid hgr
    have HS5 := Lib.hid hs
    have HLO := Lib.hid hlo
    clear hrun hio hgr hs hlo hr5 hb5 hLN
    rw [if_pos (by rfl)]
    refine op_append_run (.tmp 200) (.tmp 208) 22 (by kernel_rfl) (by kernel_rfl) (by kernel_rfl) HRUN.out ?_
    (first | refine hK.out _ _ trivial (fun hHeld => ?_) | refine hK _ _ trivial (fun hHeld => ?_))
    clear hK K
    try simp only [Act.put, List.setIfInBounds_toArray, List.set_cons_zero, List.set_cons_succ]
    ((refine wpAnyH_take (i := 11) (v := ?_) (by (simp only [List.getElem?_toArray, List.getElem?_cons_succ, List.getElem?_cons_zero]); rfl) (by kernel_rfl) (by kernel_rfl) (by kernel_rfl) (by exact fun _ _ _ h => h) (Or.inl ⟨by rfl, ?_⟩) (by assumption) ?_); rotate_left; focus (intro wS hSw; (try dsimp only at hSw); go_simp; first | done | with_reducible rfl); try simp only [Act.put, List.setIfInBounds_toArray, List.set_cons_zero, List.set_cons_succ])
    have g0 : WG.cell? ⟨SK, 1, none⟩ = some (.slice (some ⟨ge, oe, none⟩) na ca) := cell_at HB5.out 1
    have gz : ∀ j, WG.frozen? ⟨SK, j, none⟩ = false := fun j => free_at HB5.out j
    have gl : SK < WG.heap.size := HB5.out.lt
    refine wpAnyH_ready (rs := [12]) (by kernel_rfl) (by simp) ?_
    refine AllReadyH.cons (by (simp only [List.getElem?_toArray, List.getElem?_cons_succ, List.getElem?_cons_zero]); rfl) (fun K hK => ?_) AllReadyH.nil
    generalize hWH' : WG.setCell ⟨SK, 1, none⟩ (.slice a5 LN c5) = WH
    have hWH := hWH'.symm
    clear hWH'
    have HFH := Lib.hid (HFA.out.pushA HIO.out HGR.out HS5.out HLO.out hWH)
    go_simp
    rw [← hWH]
    (first | refine hK.out _ _ trivial (fun hHeld => ?_) | refine hK _ _ trivial (fun hHeld => ?_))
    clear hK K g0 gz gl hWH
    try simp only [Act.put, List.setIfInBounds_toArray, List.set_cons_zero, List.set_cons_succ]
    refine wpAnyH_done (by kernel_rfl) ?_ _
    try simp only [Act.put, List.setIfInBounds_toArray, List.set_cons_zero, List.set_cons_succ]
    go_wp2_with fail
    exact HKK.out _ _ _ _ _ _ _ _ _ _ _ _ _ _ ob5 (by rw [← HX2.out.1]; exact HFH.out)
  · skip
    have x0 : W9.drew.cell? ⟨SK, 1, none⟩ = some (.slice (some ⟨ge, oe, none⟩) na ca) := cell_at HFZ.out.sb 1
    go_simp
    (first | refine hK.out _ _ trivial (fun hHeld => ?_) | refine hK _ _ trivial (fun hHeld => ?_))
    clear hK K x0
    try simp only [Act.put, List.setIfInBounds_toArray, List.set_cons_zero, List.set_cons_succ]
    ((refine wpAnyH_take (i := 5) (v := ?_) (by (simp only [List.getElem?_toArray, List.getElem?_cons_succ, List.getElem?_cons_zero]); rfl) (by kernel_rfl) (by kernel_rfl) (by kernel_rfl) (by exact fun _ _ _ h => h) (Or.inl ⟨by rfl, ?_⟩) (by assumption) ?_); rotate_left; focus (intro wS hSw; (try dsimp only at hSw); go_simp; first | done | with_reducible rfl); try simp only [Act.put, List.setIfInBounds_toArray, List.set_cons_zero, List.set_cons_succ])
    refine wpAnyH_ready (rs := [1, 6]) (by kernel_rfl) (by simp) ?_
    refine AllReadyH.cons (by (simp only [List.getElem?_toArray, List.getElem?_cons_succ, List.getElem?_cons_zero]); rfl) (fun K hK => ?_) (AllReadyH.cons (by (simp only [List.getElem?_toArray, List.getElem?_cons_succ, List.getElem?_cons_zero]); rfl) (fun K hK => ?_) (AllReadyH.nil))
    · skip
      have x0 : W9.drew.cell? ⟨SK, 1, none⟩ = some (.slice (some ⟨ge, oe, none⟩) na ca) := cell_at HFZ.out.sb 1
      go_simp
      (first | refine hK.out _ _ trivial (fun hHeld => ?_) | refine hK _ _ trivial (fun hHeld => ?_))
      clear hK K x0
      try simp only [Act.put, List.setIfInBounds_toArray, List.set_cons_zero, List.set_cons_succ]
      refine wpAnyH_ready (rs := [6]) (by kernel_rfl) (by simp) ?_
      refine AllReadyH.cons (by (simp only [List.getElem?_toArray, List.getElem?_cons_succ, List.getElem?_cons_zero]); rfl) (fun K hK => ?_) (AllReadyH.nil)
      have cy : W9.drew.cell? ⟨ge, oe + N, none⟩ = some (.int .i64 E1) := HEL.out _ (by first | exact belowN (Below.refl _ _) 1 | assumption)
      go_simp
      (first | refine hK.out _ _ trivial (fun hHeld => ?_) | refine hK _ _ trivial (fun hHeld => ?_))
      clear hK K cy
      try simp only [Act.put, List.setIfInBounds_toArray, List.set_cons_zero, List.set_cons_succ]
      ((refine wpAnyH_take (i := 8) (v := ?_) (by (simp only [List.getElem?_toArray, List.getElem?_cons_succ, List.getElem?_cons_zero]); rfl) (by kernel_rfl) (by kernel_rfl) (by kernel_rfl) (by exact fun _ _ _ h => h) (Or.inl ⟨by rfl, ?_⟩) (by assumption) ?_); rotate_left; focus (intro wS hSw; (try dsimp only at hSw); go_simp; first | done | with_reducible rfl); try simp only [Act.put, List.setIfInBounds_toArray, List.set_cons_zero, List.set_cons_succ])
      refine wpAnyH_ready (rs := [9]) (by kernel_rfl) (by simp) ?_
      refine AllReadyH.cons (by (simp only [List.getElem?_toArray, List.getElem?_cons_succ, List.getElem?_cons_zero]); rfl) (fun K hK => ?_) (AllReadyH.nil)
      go_simp
      obtain ⟨NB, hNB⟩ : ∃ N, N = W9.heap.size := ⟨_, rfl⟩
      obtain ⟨WA, hWA⟩ : ∃ W, W = (W9.alloc (.cells #[.int .i64 X2] 3)).drew := ⟨_, rfl⟩
      have k9 : Blk WA NB #[.int .i64 X2] 3 := by rw [hWA, hNB]; exact blk_new W9 _ _
      have hB9 : Below W9.drew.heap.size W9.drew WA := by rw [hWA]; exact alloc_b W9.drew _
      have HFA := Lib.hid (HFZ.out.step hB9)
      have HKA := Lib.hid k9
      rw [← hNB, ← hWA]
      (first | refine hK.out _ _ trivial (fun hHeld => ?_) | refine hK _ _ trivial (fun hHeld => ?_))
      clear hK K k9 hB9 hNB hWA
      try simp only [Act.put, List.setIfInBounds_toArray, List.set_cons_zero, List.set_cons_succ]
      refine wpAnyH_ready (rs := [10]) (by kernel_rfl) (by simp) ?_
      refine AllReadyH.cons (by (simp only [List.getElem?_toArray, List.getElem?_cons_succ, List.getElem?_cons_zero]); rfl) (fun K hK => ?_) (AllReadyH.nil)
      obtain ⟨v5, ob5, WG, hrun, hio, hgr, hs, hlo⟩ := in_grow (M := w.heap.size) (ty := 22) HFA.out.ai HKA.out (by have := HX2.out; omega) HFA.out.b.size (by rw [HML.out]; have := HN150.out; omega)
      have hr5 := hio.1
      obtain ⟨a5, c5, rfl, -, -, -⟩ := hr5.shape
      obtain ⟨LN, hLN⟩ : ∃ l, l = (Al ++ [X2]).length := ⟨_, rfl⟩
      rw [← hLN] at hrun hio
      have HLN := Lib.hid hLN
      have hb5 := HFA.out.grA hgr
      have HRUN := Lib.hid hrun
      have HB5 := Lib.hid hb5
      have HIO := Lib.hid hio
      have HGR := Lib.hid hgr
      have HS5 := Lib.hid hs
      have HLO := Lib.hid hlo
      clear hrun hio hgr hs hlo hr5 hb5 hLN
      rw [if_pos (by rfl)]
      refine op_append_run (.tmp 200) (.tmp 208) 22 (by kernel_rfl) (by kernel_rfl) (by kernel_rfl) HRUN.out ?_
      (first | refine hK.out _ _ trivial (fun hHeld => ?_) | refine hK _ _ trivial (fun hHeld => ?_))
      clear hK K
      try simp only [Act.put, List.setIfInBounds_toArray, List.set_cons_zero, List.set_cons_succ]
      ((refine wpAnyH_take (i := 11) (v := ?_) (by (simp only [List.getElem?_toArray, List.getElem?_cons_succ, List.getElem?_cons_zero]); rfl) (by kernel_rfl) (by kernel_rfl) (by kernel_rfl) (by exact fun _ _ _ h => h) (Or.inl ⟨by rfl, ?_⟩) (by assumption) ?_); rotate_left; focus (intro wS hSw; (try dsimp only at hSw); go_simp; first | done | with_reducible rfl); try simp only [Act.put, List.setIfInBounds_toArray, List.set_cons_zero, List.set_cons_succ])
      have g0 : WG.cell? ⟨SK, 1, none⟩ = some (.slice (some ⟨ge, oe, none⟩) na ca) := cell_at HB5.out 1
      have gz : ∀ j, WG.frozen? ⟨SK, j, none⟩ = false := fun j => free_at HB5.out j
      have gl : SK < WG.heap.size := HB5.out.lt
      refine wpAnyH_ready (rs := [12]) (by kernel_rfl) (by simp) ?_
      refine AllReadyH.cons (by (simp only [List.getElem?_toArray, List.getElem?_cons_succ, List.getElem?_cons_zero]); rfl) (fun K hK => ?_) AllReadyH.nil
      generalize hWH' : WG.setCell ⟨SK, 1, none⟩ (.slice a5 LN c5) = WH
      have hWH := hWH'.symm
      clear hWH'
      have HFH := Lib.hid (HFA.out.pushA HIO.out HGR.out HS5.out HLO.out hWH)
      go_simp
      rw [← hWH]
      (first | refine hK.out _ _ trivial (fun hHeld => ?_) | refine hK _ _ trivial (fun hHeld => ?_))
      clear hK K g0 gz gl hWH
      try simp only [Act.put, List.setIfInBounds_toArray, List.set_cons_zero, List.set_cons_succ]
      refine wpAnyH_done (by kernel_rfl) ?_ _
      try simp only [Act.put, List.setIfInBounds_toArray, List.set_cons_zero, List.set_cons_succ]
      go_wp2_with fail
      exact HKK.out _ _ _ _ _ _ _ _ _ _ _ _ _ _ ob5 (by rw [← HX2.out.1]; exact HFH.out)
    · skip
      have cy : W9.drew.cell? ⟨ge, oe + N, none⟩ = some (.int .i64 E1) := HEL.out _ (by first | exact belowN (Below.refl _ _) 1 | assumption)
      go_simp
      (first | refine hK.out _ _ trivial (fun hHeld => ?_) | refine hK _ _ trivial (fun hHeld => ?_))
      clear hK K cy
      try simp only [Act.put, List.setIfInBounds_toArray, List.set_cons_zero, List.set_cons_succ]
      ((refine wpAnyH_take (i := 8) (v := ?_) (by (simp only [List.getElem?_toArray, List.getElem?_cons_succ, List.getElem?_cons_zero]); rfl) (by kernel_rfl) (by kernel_rfl) (by kernel_rfl) (by exact fun _ _ _ h => h) (Or.inl ⟨by rfl, ?_⟩) (by assumption) ?_); rotate_left; focus (intro wS hSw; (try dsimp only at hSw); go_simp; first | done | with_reducible rfl); try simp only [Act.put, List.setIfInBounds_toArray, List.set_cons_zero, List.set_cons_succ])
      refine wpAnyH_ready (rs := [1, 9]) (by kernel_rfl) (by simp) ?_
      refine AllReadyH.cons (by (simp only [List.getElem?_toArray, List.getElem?_cons_succ, List.getElem?_cons_zero]); rfl) (fun K hK => ?_) (AllReadyH.cons (by (simp only [List.getElem?_toArray, List.getElem?_cons_succ, List.getElem?_cons_zero]); rfl) (fun K hK => ?_) (AllReadyH.nil))
      · skip
        have x0 : W9.drew.cell? ⟨SK, 1, none⟩ = some (.slice (some ⟨ge, oe, none⟩) na ca) := cell_at HFZ.out.sb 1
        go_simp
        (first | refine hK.out _ _ trivial (fun hHeld => ?_) | refine hK _ _ trivial (fun hHeld => ?_))
        clear hK K x0
        try simp only [Act.put, List.setIfInBounds_toArray, List.set_cons_zero, List.set_cons_succ]
        refine wpAnyH_ready (rs := [9]) (by kernel_rfl) (by simp) ?_
        refine AllReadyH.cons (by (simp only [List.getElem?_toArray, List.getElem?_cons_succ, List.getElem?_cons_zero]); rfl) (fun K hK => ?_) (AllReadyH.nil)
        go_simp
        obtain ⟨NB, hNB⟩ : ∃ N, N = W9.heap.size := ⟨_, rfl⟩
        obtain ⟨WA, hWA⟩ : ∃ W, W = (W9.alloc (.cells #[.int .i64 X2] 3)).drew := ⟨_, rfl⟩
        have k9 : Blk WA NB #[.int .i64 X2] 3 := by rw [hWA, hNB]; exact blk_new W9 _ _
        have hB9 : Below W9.drew.heap.size W9.drew WA := by rw [hWA]; exact alloc_b W9.drew _
        have HFA := Lib.hid (HFZ.out.step hB9)
        have HKA := Lib.hid k9
        rw [← hNB, ← hWA]
        (first | refine hK.out _ _ trivial (fun hHeld => ?_) | refine hK _ _ trivial (fun hHeld => ?_))
        clear hK K k9 hB9 hNB hWA
        try simp only [Act.put, List.setIfInBounds_toArray, List.set_cons_zero, List.set_cons_succ]
        refine wpAnyH_ready (rs := [10]) (by kernel_rfl) (by simp) ?_
        refine AllReadyH.cons (by (simp only [List.getElem?_toArray, List.getElem?_cons_succ, List.getElem?_cons_zero]); rfl) (fun K hK => ?_) (AllReadyH.nil)
        obtain ⟨v5, ob5, WG, hrun, hio, hgr, hs, hlo⟩ := in_grow (M := w.heap.size) (ty := 22) HFA.out.ai HKA.out (by have := HX2.out; omega) HFA.out.b.size (by rw [HML.out]; have := HN150.out; omega)
        have hr5 := hio.1
        obtain ⟨a5, c5, rfl, -, -, -⟩ := hr5.shape
        obtain ⟨LN, hLN⟩ : ∃ l, l = (Al ++ [X2]).length := ⟨_, rfl⟩
        rw [← hLN] at hrun hio
        have HLN := Lib.hid hLN
        have hb5 := HFA.out.grA hgr
        have HRUN := Lib.hid hrun
        have HB5 := Lib.hid hb5
        have HIO := Lib.hid hio
        have HGR := Lib.hid hgr
        have HS5 := Lib.hid hs
        have HLO := Lib.hid hlo
        clear hrun hio hgr hs hlo hr5 hb5 hLN
        rw [if_pos (by rfl)]
        refine op_append_run (.tmp 200) (.tmp 208) 22 (by kernel_rfl) (by kernel_rfl) (by kernel_rfl) HRUN.out ?_
        (first | refine hK.out _ _ trivial (fun hHeld => ?_) | refine hK _ _ trivial (fun hHeld => ?_))
        clear hK K
        try simp only [Act.put, List.setIfInBounds_toArray, List.set_cons_zero, List.set_cons_succ]
        ((refine wpAnyH_take (i := 11) (v := ?_) (by (simp only [List.getElem?_toArray, List.getElem?_cons_succ, List.getElem?_cons_zero]); rfl) (by kernel_rfl) (by kernel_rfl) (by kernel_rfl) (by exact fun _ _ _ h => h) (Or.inl ⟨by rfl, ?_⟩) (by assumption) ?_); rotate_left; focus (intro wS hSw; (try dsimp only at hSw); go_simp; first | done | with_reducible rfl); try simp only [Act.put, List.setIfInBounds_toArray, List.set_cons_zero, List.set_cons_succ])
        have g0 : WG.cell? ⟨SK, 1, none⟩ = some (.slice (some ⟨ge, oe, none⟩) na ca) := cell_at HB5.out 1
        have gz : ∀ j, WG.frozen? ⟨SK, j, none⟩ = false := fun j => free_at HB5.out j
        have gl : SK < WG.heap.size := HB5.out.lt
        refine wpAnyH_ready (rs := [12]) (by kernel_rfl) (by simp) ?_
        refine AllReadyH.cons (by (simp only [List.getElem?_toArray, List.getElem?_cons_succ, List.getElem?_cons_zero]); rfl) (fun K hK => ?_) AllReadyH.nil
        generalize hWH' : WG.setCell ⟨SK, 1, none⟩ (.slice a5 LN c5) = WH
        have hWH := hWH'.symm
        clear hWH'
        have HFH := Lib.hid (HFA.out.pushA HIO.out HGR.out HS5.out HLO.out hWH)
        go_simp
        rw [← hWH]
        (first | refine hK.out _ _ trivial (fun hHeld => ?_) | refine hK _ _ trivial (fun hHeld => ?_))
        clear hK K g0 gz gl hWH
        try simp only [Act.put, List.setIfInBounds_toArray, List.set_cons_zero, List.set_cons_succ]
        refine wpAnyH_done (by kernel_rfl) ?_ _
        try simp only [Act.put, List.setIfInBounds_toArray, List.set_cons_zero, List.set_cons_succ]
        go_wp2_with fail
        exact HKK.out _ _ _ _ _ _ _ _ _ _ _ _ _ _ ob5 (by rw [← HX2.out.1]; exact HFH.out)
      · skip
        go_simp
        obtain ⟨NB, hNB⟩ : ∃ N, N = W9.heap.size := ⟨_, rfl⟩
        obtain ⟨WA, hWA⟩ : ∃ W, W = (W9.alloc (.cells #[.int .i64 X2] 3)).drew := ⟨_, rfl⟩
        have k9 : Blk WA NB #[.int .i64 X2] 3 := by rw [hWA, hNB]; exact blk_new W9 _ _
        have hB9 : Below W9.drew.heap.size W9.drew WA := by rw [hWA]; exact alloc_b W9.drew _
        have HFA := Lib.hid (HFZ.out.step hB9)
        have HKA := Lib.hid k9
        rw [← hNB, ← hWA]
        (first | refine hK.out _ _ trivial (fun hHeld => ?_) | refine hK _ _ trivial (fun hHeld => ?_))
        clear hK K k9 hB9 hNB hWA
        try simp only [Act.put, List.setIfInBounds_toArray, List.set_cons_zero, List.set_cons_succ]
        refine wpAnyH_ready (rs := [1]) (by kernel_rfl) (by simp) ?_
        refine AllReadyH.cons (by (simp only [List.getElem?_toArray, List.getElem?_cons_succ, List.getElem?_cons_zero]); rfl) (fun K hK => ?_) (AllReadyH.nil)
        have x0 : WA.cell? ⟨SK, 1, none⟩ = some (.slice (some ⟨ge, oe, none⟩) na ca) := cell_at HFA.out.sb 1
        go_simp
        (first | refine hK.out _ _ trivial (fun hHeld => ?_) | refine hK _ _ trivial (fun hHeld => ?_))
        clear hK K x0
        try simp only [Act.put, List.setIfInBounds_toArray, List.set_cons_zero, List.set_cons_succ]
        refine wpAnyH_ready (rs := [10]) (by kernel_rfl) (by simp) ?_
        refine AllReadyH.cons (by (simp only [List.getElem?_toArray, List.getElem?_cons_succ, List.getElem?_cons_zero]); rfl) (fun K hK => ?_) (AllReadyH.nil)
        obtain ⟨v5, ob5, WG, hrun, hio, hgr, hs, hlo⟩ := in_grow (M := w.heap.size) (ty := 22) HFA.out.ai HKA.out (by have := HX2.out; omega) HFA.out.b.size (by rw [HML.out]; have := HN150.out; omega)
        have hr5 := hio.1
        obtain ⟨a5, c5, rfl, -, -, -⟩ := hr5.shape
        obtain ⟨LN, hLN⟩ : ∃ l, l = (Al ++ [X2]).length := ⟨_, rfl⟩
        rw [← hLN] at hrun hio
        have HLN := Lib.hid hLN
        have hb5 := HFA.out.grA hgr
        have HRUN := Lib.hid hrun
        have HB5 := Lib.hid hb5
        have HIO := Lib.hid hio
        have HGR := Lib.hid hgr
        have HS5 := Lib.hid hs
        have HLO := Lib.hid hlo
        clear hrun hio hgr hs hlo hr5 hb5 hLN
        rw [if_pos (by rfl)]
        refine op_append_run (.tmp 200) (.tmp 208) 22 (by kernel_rfl) (by kernel_rfl) (by kernel_rfl) HRUN.out ?_
        (first | refine hK.out _ _ trivial (fun hHeld => ?_) | refine hK _ _ trivial (fun hHeld => ?_))
        clear hK K
        try simp only [Act.put, List.setIfInBounds_toArray, List.set_cons_zero, List.set_cons_succ]
        ((refine wpAnyH_take (i := 11) (v := ?_) (by (simp only [List.getElem?_toArray, List.getElem?_cons_succ, List.getElem?_cons_zero]); rfl) (by kernel_rfl) (by kernel_rfl) (by kernel_rfl) (by exact fun _ _ _ h => h) (Or.inl ⟨by rfl, ?_⟩) (by assumption) ?_); rotate_left; focus (intro wS hSw; (try dsimp only at hSw); go_simp; first | done | with_reducible rfl); try simp only [Act.put, List.setIfInBounds_toArray, List.set_cons_zero, List.set_cons_succ])
        have g0 : WG.cell? ⟨SK, 1, none⟩ = some (.slice (some ⟨ge, oe, none⟩) na ca) := cell_at HB5.out 1
        have gz : ∀ j, WG.frozen? ⟨SK, j, none⟩ = false := fun j => free_at HB5.out j
        have gl : SK < WG.heap.size := HB5.out.lt
        refine wpAnyH_ready (rs := [12]) (by kernel_rfl) (by simp) ?_
        refine AllReadyH.cons (by (simp only [List.getElem?_toArray, List.getElem?_cons_succ, List.getElem?_cons_zero]); rfl) (fun K hK => ?_) AllReadyH.nil
        generalize hWH' : WG.setCell ⟨SK, 1, none⟩ (.slice a5 LN c5) = WH
        have hWH := hWH'.symm
        clear hWH'
        have HFH := Lib.hid (HFA.out.pushA HIO.out HGR.out HS5.out HLO.out hWH)
        go_simp
        rw [← hWH]
        (first | refine hK.out _ _ trivial (fun hHeld => ?_) | refine hK _ _ trivial (fun hHeld => ?_))
        clear hK K g0 gz gl hWH
        try simp only [Act.put, List.setIfInBounds_toArray, List.set_cons_zero, List.set_cons_succ]
        refine wpAnyH_done (by kernel_rfl) ?_ _
        try simp only [Act.put, List.setIfInBounds_toArray, List.set_cons_zero, List.set_cons_succ]
        go_wp2_with fail
        exact HKK.out _ _ _ _ _ _ _ _ _ _ _ _ _ _ ob5 (by rw [← HX2.out.1]; exact HFH.out)
end Go.Proofs.Ytnainlemnkfpkaa
