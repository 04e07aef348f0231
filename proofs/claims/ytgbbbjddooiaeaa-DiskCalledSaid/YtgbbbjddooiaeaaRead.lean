/-
  read: a copy of a file's text.
-/
import Derived.Test.YtgbbbjddooiaeaaText
namespace Go.Proofs.Ytgbbbjddooiaeaa
open Go.RowKit Go.Shelf

attribute [local go_sem] Oper.semAt_some

def blkB (t : List UInt8) (i : Nat) : List UInt8 := (t.drop (512 * i)).take 512
/-- What has come behind some blocks. -/
def cont (t : List UInt8) {n : Nat} (pre : List (Blk n)) : List UInt8 := pre.flatMap fun x => blkB t x.1
theorem cont_snoc (t : List UInt8) {n : Nat} (pre : List (Blk n)) (x : Blk n) : cont t (pre ++ [x]) = cont t pre ++ blkB t x.1 := by simp [cont]
theorem blkB_length (t : List UInt8) (i : Nat) : (blkB t i).length = min 512 (t.length - 512 * i) := by simp [blkB]
theorem cont_length (t : List UInt8) {n : Nat} (pre : List (Blk n)) : (cont t pre).length ≤ 512 * pre.length := by
  induction pre with
  | nil => simp [cont]
  | cons x l ih =>
    have := blkB_length t x.1
    simp only [cont, List.flatMap_cons, List.length_append, List.length_cons] at ih ⊢
    omega
theorem range_cont (t : List UInt8) (k : Nat) : (List.range k).flatMap (blkB t) = t.take (512 * k) := by
  induction k with
  | zero => simp
  | succ k ih => rw [List.range_succ, List.flatMap_append, ih, Nat.mul_succ, List.take_add]; simp [blkB]
theorem cont_all (t : List UInt8) {n : Nat} (ys : List (Blk n)) (h : ys.map (·.1) = List.range n) (ht : t.length ≤ 512 * n) : cont t ys = t := by
  have e : cont t ys = (ys.map (·.1)).flatMap (blkB t) := by simp [cont, List.flatMap_map]
  rw [e, h, range_cont, List.take_of_length_le ht]

theorem infoU8 : (Try.prog.info? 5).map (fun i => (i.zero, i.size, i.bytes)) = some (some (.int .u8 0), 1, 1) := by kernel_rfl

/-- A box and a row behind an append to the row that is laid into the box. -/
theorem box_appended {W w1 : World} {n₀ B : Nat} {t e : TypeId} {size : Nat} {v v' : Value} {k m : Nat} {xs ys : List Value} (hv : Boxed W B t v) (hte : t ≠ e) (hrow : W.ownsRow n₀ e size v k xs) (hn₀ : n₀ ≤ W.heap.size) (hB : n₀ ≤ B)
    (hown' : w1.ownsRow n₀ e size v' m ys) (hgrow : W.grownBy w1 v.ownBlock) :
    Boxed w1 B t v ∧ Boxed (w1.setCell ⟨B, 0, none⟩ v') B t v' ∧ (w1.setCell ⟨B, 0, none⟩ v').ownsRow n₀ e size v' m ys ∧ KeepsOthers W (w1.setCell ⟨B, 0, none⟩ v') ∧ Below n₀ W (w1.setCell ⟨B, 0, none⟩ v') := by
  have hv1 : Boxed w1 B t v := hv.kept hgrow (hv.not_row hte hrow)
  refine ⟨hv1, hv1.set v', hown'.kept (grownBy_setCell' w1 B v') (.inr (hv1.not_row hte hown').symm), ?_, ?_⟩
  · refine (KeepsOthers.of_grownBy hgrow fun j o ej hj => ?_).trans (KeepsOthers.setCell _ _ _)
    rcases hrow.2 with ⟨rfl, _⟩ | ⟨g, cap, cur, rfl, _, hgb, _⟩
    · simp [Value.ownBlock] at ej
    · obtain rfl : g = j := by simpa [Value.ownBlock] using ej
      rw [hgb] at hj; cases hj; rfl
  · refine ((Below.refl n₀ W).grown hgrow hn₀ fun j ej => ?_).setCell (p := ⟨B, 0, none⟩) hB v'
    rcases hrow.2 with ⟨rfl, _⟩ | ⟨g, cap, cur, rfl, hb, _, _⟩
    · simp [Value.ownBlock] at ej
    · obtain rfl : g = j := by simpa [Value.ownBlock] using ej
      exact hb

set_option maxRecDepth 100000 in
set_option maxHeartbeats 2000000 in
theorem read_any {w : World} {F : Nat} {g : Option Nat} {f : PF} (h : FRep w (F, g) f) :
    Calls Try.prog 51 #[.pointer (some ⟨F, 0, none⟩)] w fun e W' => ∃ v, e = .returned v ∧ W'.ownsRow w.heap.size 5 1 v f.text.length (bytesV f.text) ∧ Below w.heap.size w W' := by
  refine (callsIn_wide (n := 9)).1 ?_
  obtain ⟨i0, hi, hz0, hz1, hz2⟩ := info_parts infoU8
  have hsz0 : Calls Try.prog 56 #[.pointer (some ⟨F, 0, none⟩)] w fun r w' => r = .returned (.int .i64 (f.text.length : Nat)) ∧ w = w' := size_some (p := (F, g)) h
  have hsz := callsIn_wide (n := 8).2 hsz0
  clear hsz0
  obtain ⟨L, hL⟩ : ∃ L, L = f.text.length := ⟨_, rfl⟩
  rw [← hL] at hsz ⊢
  have hL20 : L ≤ 1048576 := by obtain ⟨v, n, xs, _, _, _, hok⟩ := h; have := hok.2.2; omega
  have HL := Lib.hid hL
  clear hL
  refine callsIn_of_wp_marks Try.func51 rfl trivial ?_ rfl
  simp only [Try.ntmps51, List.size_toArray, List.length_cons, List.length_nil, Nat.reduceAdd, Nat.reduceSub, Array.replicate_succ, Array.replicate_zero, List.push_toArray, List.append_toArray, List.nil_append, List.cons_append]
  gi_wp2_with (first
    | (refine ⟨trivial, ?_⟩; gi_at_call 56; refine hsz.mono ?_; rintro e w1 ⟨rfl, rfl⟩)
    | (gi_at_make; refine wpListIn_make_own _ rfl _ _ 35 rfl w.heap.size 5 i0 (.int .u8 0) 1 Try.underlying35 hi hz0 hz1 .i64 .i64 (L : Nat) L rfl rfl rfl (by rw [hz2]; omega) (by unfold maxLen; omega) (Nat.le_refl _) ?_; intro w1 hown hgrow)
    | (refine ⟨trivial, ?_⟩; gi_at_call 70; refine (callsIn_wide.2 (text_any F _)).mono ?_; rintro e w2 ⟨rfl, rfl⟩))
  obtain ⟨bv, n, xs, hb, hrow, hbl, hok⟩ := h
  have hFlt := lt_of_block hb
  have hglt : ∀ x, g = some x → x < w.heap.size := fun x e => by subst e; exact hrow.lt
  obtain ⟨N, hN⟩ : ∃ N, N = w.heap.size := ⟨_, rfl⟩
  obtain ⟨B, hB⟩ : ∃ B, B = w1.heap.size := ⟨_, rfl⟩
  have hNB : N < B := by
    have := (hown.lt w.heap.size rfl).2
    omega
  have hB1 : Below N w w1 := (Below.refl N w).grown hgrow (by omega) (fun _ e => by cases e)
  rw [← hN] at hown hFlt hglt ⊢
  rw [← hB]
  have bO : Boxed (w1.alloc (.cells #[.slice (some ⟨N, 0, none⟩) 0 L] 35)) B 35 (.slice (some ⟨N, 0, none⟩) 0 L) := by rw [hB]; exact Boxed.new w1 _ _
  have bN : Boxed ((w1.alloc (.cells #[.slice (some ⟨N, 0, none⟩) 0 L] 35)).alloc (.cells #[.pointer (some ⟨F, 0, none⟩)] 69)) (B + 1) 69 (.pointer (some ⟨F, 0, none⟩)) := by
    have := Boxed.new (w1.alloc (.cells #[.slice (some ⟨N, 0, none⟩) 0 L] 35)) 69 (.pointer (some ⟨F, 0, none⟩))
    rw [World.size_alloc, ← hB] at this; exact this
  have bO2 := bO.alloc (.cells #[.pointer (some ⟨F, 0, none⟩)] 69)
  have hr2 := (hown.alloc (.cells #[.slice (some ⟨N, 0, none⟩) 0 L] 35)).alloc (.cells #[.pointer (some ⟨F, 0, none⟩)] 69)
  have hB2 : Below N w ((w1.alloc (.cells #[.slice (some ⟨N, 0, none⟩) 0 L] 35)).alloc (.cells #[.pointer (some ⟨F, 0, none⟩)] 69)) := (hB1.alloc (by omega) _).alloc (by simp; omega) _
  obtain ⟨W0, hW0⟩ : ∃ W0, W0 = (w1.alloc (.cells #[.slice (some ⟨N, 0, none⟩) 0 L] 35)).alloc (.cells #[.pointer (some ⟨F, 0, none⟩)] 69) := ⟨_, rfl⟩
  have hW0s : W0.heap.size = B + 2 := by rw [hW0]; simp; omega
  rw [← hW0] at bN bO2 hr2 hB2 ⊢
  have hlo := hbl.lo
  have hhi := hbl.hi
  rw [← HL.out] at hlo hhi
  have hn : n ≤ 2048 := by omega
  have HNe := Lib.hid hN
  have HBe := Lib.hid hB
  have HW0 := Lib.hid hW0
  have HW0s := Lib.hid hW0s
  have hBW0 : B + 2 ≤ W0.heap.size := by omega
  have hNW0 : N ≤ w.heap.size := by omega
  clear hN hB hW0 hW0s
  refine wpIn_rangeFunc_ownF rfl (by omega) (gf := 84) (lb := #[.pointer (some ⟨B + 1, 0, none⟩)]) rfl trivial (enters_of Try.func84 (by kernel_rfl) rfl)
    (text_stops 8 (by omega) (w := W0) (F := F) (g := g) (f := f) (v := bv) (n := n) (xs := xs) (B + 1) N hFlt hglt (by omega) (by omega) ((hB2.block F hFlt).trans hb) (hrow.congr fun x e => hB2.block x (hglt x e)) hbl hok bN.cell)
    (fun h k => ⟨h.1.trans k.1, k.2.trans h.2⟩) (fun W l o o' hl ho hc hw => ⟨belowK_b (w := W0) (by omega) W l o o' hl ho hc hw, World.putObj_heap_other (by omega)⟩) (Below.refl _ _) (fun _ => rfl)
    (fun pre W => (∃ v, Boxed W B 35 v ∧ W.ownsRow N 5 1 v (cont f.text pre).length (bytesV (cont f.text pre)) ∧ True) ∧ (Boxed W (B + 1) 69 (.pointer (some ⟨F, 0, none⟩)) ∧ Below N w W))
    (fun _ _ _ => False)
    (OwnFrom.and (Own.from (holdsRow_own N B 35 5 1 (fun pre => (cont f.text pre).length) (fun pre => bytesV (cont f.text pre)) (fun _ _ => True)) _) (OwnFrom.and (Own.from (boxed_own _ _ _) _) (ownFrom_below (by omega) (by omega))))
    (fun _ _ _ _ _ hs _ _ => hs)
    ⟨⟨_, bO2, by simpa [cont, bytesV] using hr2, trivial⟩, bN, hB2⟩
    (fun x => { tmps := #[.pointer (some ⟨F, 0, none⟩), undef, .slice none 0 0, .pointer (some ⟨B, 0, none⟩), .slice (some ⟨g.getD 0, x.1 * 513 + 1, none⟩) (min 512 (f.text.length - 512 * x.1)) 512, .pointer (some ⟨F, 0, none⟩), .int .i64 (L : Nat), .slice (some ⟨N, 0, none⟩) 0 L, .pointer (some ⟨F, 0, none⟩),
        .func (.func 84) #[] #[.pointer (some ⟨B + 1, 0, none⟩)], .slice (some ⟨g.getD 0, x.1 * 513 + 1, none⟩) (min 512 (f.text.length - 512 * x.1)) 512, undef, undef, undef, undef], defers := [] }) ?assign ?body ?done ?stop
  case assign =>
    intro l x W K hK
    clear hb hrow hbl hok hi hz0 hz1 hz2
    dsimp only [encB]
    gi_wp2
    exact hK
  case body =>
    rintro l pre x W ⟨⟨v, hv, hr, _⟩, hbx, hBW⟩ hlt
    obtain ⟨u, hu⟩ : ∃ u, u = min 512 (f.text.length - 512 * x.1) := ⟨_, rfl⟩
    have hx := x.2
    have e1 := HL.out
    obtain ⟨u', rfl⟩ : ∃ u', u = u' + 1 := ⟨u - 1, by omega⟩
    have hcl := cont_length f.text pre
    have hbk : (blkB f.text x.1).length = u' + 1 := by rw [blkB_length, hu]
    obtain ⟨gg, hgg⟩ : ∃ gg, g = some gg := by obtain ⟨y, hy, _⟩ := hrow.cell 0 (by omega); exact ⟨y, hy⟩
    have hNb : N ≤ B := by omega
    have hu512 : u' ≤ 512 := by omega
    have hsrc : ∀ j y, (bytesV (blkB f.text x.1))[j]? = some y → W.cell? ((⟨gg, x.1 * 513 + 1, none⟩ : Addr).add j) = some y := by
      intro j y hy
      have hj : j < u' + 1 := by
        rcases Nat.lt_or_ge j (u' + 1) with h | h
        · exact h
        · rw [List.getElem?_eq_none (by rw [bytesV_length, hbk]; exact h)] at hy; cases hy
      rw [bytesV_at _ _ (by omega)] at hy
      obtain rfl := Option.some.inj hy
      obtain ⟨y2, hy2, hcy, _⟩ := hrow.cell (x.1 * 513 + 1 + j) (by omega)
      obtain rfl : gg = y2 := by rw [hgg] at hy2; exact Option.some.inj hy2
      rw [addr_plain, hBW.cell (p := ⟨gg, x.1 * 513 + 1 + j, none⟩) (hglt gg hgg), hcy]
      have hb2 := hbl.byte (512 * x.1 + j) (by omega)
      rw [show (512 * x.1 + j) / 512 = x.1 by omega, show (512 * x.1 + j) % 512 = j by omega, Nat.mul_comm 513] at hb2
      rw [hb2]
      congr 4
      simp only [blkB, List.getD]
      rw [List.getElem?_take, if_pos (by omega), List.getElem?_drop]
    have hwN : N ≤ W.heap.size := by have := hBW.size; omega
    have hc := hv.cell
    have HU := Lib.hid hu
    have HI := Lib.hid hi
    have HK := Lib.hid hbk
    have HG := Lib.hid hgg
    have hgd : g.getD 0 = gg := by rw [hgg]; rfl
    rw [← hu, hgd]
    clear hb hrow hbl hok hi e1 hu hx hbk hgg hgd
    gi_wp2_with (gi_at_builtin; refine wpListIn_append_own _ rfl (.tmp 11) (.tmp 12) 35 rfl N 5 i0 (.int .u8 0) 1 1 Try.underlying35 HI.out hz0 hz1 hz2 rfl (by decide) _ _ _ rfl hr ⟨gg, x.1 * 513 + 1, none⟩ (u' + 1) 512 (bytesV (blkB f.text x.1)) rfl (by rw [bytesV_length, HK.out, Nat.mul_one]) hsrc (bytesV_one _) (by unfold maxLen; omega) (by omega) hwN ?_; intro v' w3 hown' hgrow' _; obtain ⟨g', cap', rfl⟩ := ownsRow_succ hown'; obtain ⟨hv1, hv2, hr2, hk2, hb2⟩ := box_appended hv (by decide) hr hwN hNb hown' hgrow'; have hc1 := hv1.cell; have hf1 := hv1.frozen; have hbx3 := hbx.kept hgrow' (hbx.not_row (by decide) hr))
    have hbx4 := hbx3.other (B' := B) (by omega) (.slice (some ⟨g', 0, none⟩) ((cont f.text pre).length + u' + 1) cap')
    refine ⟨hk2, ⟨hb2, hbx4.trans hbx.symm⟩, ⟨_, hv2, ?_⟩, hbx4, hBW.trans hb2⟩
    rw [cont_snoc, List.length_append, HK.out, bytesV, List.map_append]
    exact hr2
  case done =>
    rintro D ys W hD hys ⟨⟨v, hv, hr, _⟩, hbx, hBW⟩ hK
    have hc := hv.cell
    clear hb hrow hbl hok
    gi_wp2
    refine ⟨by simp, .inl ⟨_, _, rfl, run_takeDeferred hK, ?_⟩⟩
    have hct := cont_all f.text ys hys (by rw [← HL.out]; exact hhi)
    rw [hct, ← HL.out] at hr
    refine ⟨_, results_tmp rfl _ _ _, v, rfl, ?_, ?_⟩
    · rw [← HNe.out]; exact ownsRow_putObj hr _ hK rfl
    · rw [← HNe.out]; exact hBW.trans (belowK_b (w := W0) (by omega) W D _ _ hD hK rfl rfl)
  case stop =>
    rintro D c pre W _ _ h _
    exact h.elim

end Go.Proofs.Ytgbbbjddooiaeaa
