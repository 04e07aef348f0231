/-
  Texts of this claim, put together: Sha, Shb, Shc, Shd, She, Shf.
-/
import Derived.Test.YtoodmocapagapaaOa2
import Derived.Test.YtoodmocapagapaaOb1
import Derived.Test.YtoodmocapagapaaOc1
namespace Go.Proofs.Ytoodmocapagapaa
open Go.RowKit
set_option linter.unusedSimpArgs false
set_option linter.unusedVariables false

def inP (s : SS) (X : Nat → Nat) (len : Nat) : PD := ⟨s.num + 1, (X 1 : Nat), (X 2 : Nat), len - 8, fun j => X (8 + j)⟩
def inK (fl : Nat → FlowE) (n : Nat) (X : Nat → Nat) : Nat := (flowK (X 1 : Nat) (X 2 : Nat) fl n).toNat
def inE (fl : Nat → FlowE) (n : Nat) (s : SS) (X : Nat → Nat) (len : Nat) : Int := if parseOk X len = false then 230 else if flowE (X 1 : Nat) (X 2 : Nat) fl n ≠ 0 then flowE (X 1 : Nat) (X 2 : Nat) fl n else if (s.q (inK fl n X)).length = (fl (inK fl n X)).r.toNat then 100 else 0
def inS (fl : Nat → FlowE) (n : Nat) (s : SS) (X : Nat → Nat) (len : Nat) : SS := if inE fl n s X len = 0 then ⟨s.fs, upf s.q (inK fl n X) (s.q (inK fl n X) ++ [inP s X len]), s.tok, s.bud, s.num + 1⟩ else s
def inN (fl : Nat → FlowE) (n : Nat) (s : SS) (X : Nat → Nat) (len : Nat) : Int := if inE fl n s X len = 0 then s.num + 1 else 0
theorem upf_same {α : Type} (f : Nat → α) (k : Nat) : upf f k (f k) = f := by
  funext j
  unfold upf
  split
  · subst_vars; rfl
  · rfl
theorem plcs_mem (t : Int) (E : Nat → FlowE) : ∀ (n : Nat) (k : Nat), k ∈ plcs t E n → k < n ∧ (E k).t = t
  | 0, k, h => by simp [plcs] at h
  | n + 1, k, h => by
    simp only [plcs, List.mem_append] at h
    rcases h with h | h
    · have := plcs_mem t E n k h; exact ⟨by omega, this.2⟩
    · split at h
      · rename_i ht
        obtain rfl : k = n := by simpa using h
        exact ⟨by omega, by simpa using ht⟩
      · simp at h
theorem flow_in {t c : Int} {fl : Nat → FlowE} {n : Nat} (h : flowE t c fl n = 0) : ∃ k : Nat, flowK t c fl n = (k : Int) ∧ k < n ∧ (fl k).t = t := by
  unfold flowE at h
  unfold flowK
  split at h
  · cases h
  · rename_i h0
    split at h
    · cases h
    · rename_i h1
      rw [if_neg h0, if_neg h1]
      refine ⟨_, rfl, ?_⟩
      have hl : (c % ((plcs t fl n).length : Int)).toNat < (plcs t fl n).length := by
        have := Int.emod_lt_of_pos c (show (0 : Int) < ((plcs t fl n).length : Int) by omega)
        have := Int.emod_nonneg c (show ((plcs t fl n).length : Int) ≠ 0 by omega)
        omega
      rw [List.getD_eq_getElem?_getD, List.getElem?_eq_getElem hl]
      exact plcs_mem t fl n _ (List.getElem_mem hl)
theorem ShR.flow {W : World} {M : Nat} {fl : Nat → FlowE} {n fb fc qb qc : Nat} {D : Nat → Nat} (h : ShR W M fl n fb fc qb qc D) (hb : ∀ k, k < n → (fl k).ok) : FlowIn W (some ⟨fb, 0, none⟩) n fc fb 0 fl := by
  obtain ⟨_, _, h3, h4⟩ := h.qc
  exact ⟨h3, h4, fun _ => ⟨rfl, h.flr.lt⟩, fun k hk => by
    rw [Nat.zero_add]
    obtain ⟨f0, f1, f2, _⟩ := h.fat hk
    exact ⟨f0, f1, f2⟩, hb⟩
theorem FlOk.fok {fl : Nat → FlowE} {n : Nat} (h : FlOk fl n) : ∀ k, k < n → (fl k).ok := fun k hk => by
  have h1 := h.t k hk
  have h2 := h.r k hk
  have h3 := h.w.2.2 k (by rw [wL_len]; exact hk)
  rw [wL_at fl hk] at h3
  unfold FlowE.ok
  omega
theorem ShAt.numset {W W' : World} {M S : Nat} {fl : Nat → FlowE} {n c c' : Nat} {m : ShM} {s : SS} (h : ShAt W M S fl n c m s) {v : Int} (hv : 0 ≤ v ∧ v ≤ c') (hc : c ≤ c') (hW : W' = W.setCell ⟨S, 21, none⟩ (.int .i64 v)) : ShAt W' M S fl n c' m ⟨s.fs, s.q, s.tok, s.bud, v⟩ ∧ Fr [S] W W' := by
  have hf : Fr [S] W W' := by rw [hW]; exact (Fr.refl _ _).setCell _ (.inl (by simp)) _
  refine ⟨(h.cnt hc).set hf ?_ rfl rfl h.tk h.bd hv, hf⟩
  rw [hW, ← shC_setN m n s v]
  exact h.blk.set _ _
/-- a queue behind a Push -/
theorem push_at {W W' : World} {M S : Nat} {fl : Nat → FlowE} {n c : Nat} {m : ShM} {s : SS} (h : ShAt W M S fl n c m s) {k : Nat} (hk : k < n) {p : PkE} (hr : Fr [m.D k, m.R k] W W') (h1 : FqIn W' (m.D k) (m.R k) 0 (fl k).r.toNat (m.f k) ((s.q k).length + 1) (sumZ (s.q k) + (8 + (p.n : Int))) (m.dr k) (putE (m.E k) (s.q k).length p)) (hl : 0 < p.n → ∃ cs, Blk W' p.b cs 5) (hp : p.t = (fl k).t ∧ (0 ≤ p.c ∧ p.c ≤ 255) ∧ p.n ≤ 1492) :
    ∃ m', ShAt W' M S fl n c m' ⟨s.fs, upf s.q k (s.q k ++ [p.d]), s.tok, s.bud, s.num⟩ := by
  obtain ⟨cr, hcr⟩ := (h.q.qs k hk).rblk
  have hlen : (s.q k ++ [p.d]).length = (s.q k).length + 1 := by simp
  refine ⟨_, h.queue hk hr (l' := s.q k ++ [p.d]) (by rw [hlen]; exact h1) (by rw [sumZ_push]; rfl) (by rw [hlen, qlE_push, ← h.q.qd k hk]) (fun x hx => ?_) (fun j hj h0 => ?_) (h.q.dr k hk)⟩
  · rcases List.mem_append.1 hx with hx | hx
    · exact h.q.qt k hk x hx
    · obtain rfl : x = p.d := by simpa using hx
      exact hp
  · rw [hlen] at hj
    by_cases e : j = (s.q k).length
    · subst e
      have e1 : putE (m.E k) (s.q k).length p (s.q k).length = p := by simp [putE]
      rw [e1] at h0 ⊢
      exact hl h0
    · have e1 : putE (m.E k) (s.q k).length p j = m.E k j := by unfold putE; rw [if_neg e]
      rw [e1] at h0 ⊢
      obtain ⟨cs, hb⟩ := h.q.ld k hk j (by omega) h0
      exact ⟨cs, (blk_ot hb hr (l := [5]) (ot_cons (h.q.qs k hk).own (by decide) (ot_one hcr (by decide))) (by simp)).trans hb⟩
set_option maxRecDepth 100000 in
set_option maxHeartbeats 40000000 in
theorem in_any (W : World) (M S : Nat) (fl : Nat → FlowE) (n c : Nat) (m : ShM) (s : SS) (h : ShAt W M S fl n c m s) (hf : FlOk fl n) (hc : c ≤ 100000) (a : Option Addr) (len cap b o : Nat) (X : Nat → Nat) (hby : ByIn W a len cap b o X) : Calls Try.prog 6 #[.pointer (some ⟨S, 0, none⟩), .slice a len cap] W fun e w' => e = .returned (.tuple #[.int .i64 (inN fl n s X len), .int .i64 (inE fl n s X len)]) ∧ (∃ m', ShAt w' M S fl n (c + 1) m' (inS fl n s X len)) ∧ BS M W w' := by
  have hnil : ∀ W, (binOp .eql 22 (.pointer (some ⟨S, 0, none⟩)) (.pointer none)).run Try.prog W = .ok (.bool false) W := fun _ => rfl
  have HF := Lib.hid hf
  have HX0 := Lib.hid h
  have HC := Lib.hid hc
  have HXB := Lib.hid hby.bd
  have HMW : Hid (M ≤ W.heap.size) := Lib.hid (by have := h.ge; have := h.blk.lt; omega)
  have PA := Lib.hid (parse_any a len cap b o X W hby)
  clear h hf hc hby
  go_enter Try.func6, Try.ntmps6
  go_wp2_with fail
  go_at_call 22
  go_fit PA.out
  rintro e W1 ⟨hB1, ⟨hpf, rfl⟩ | ⟨hpt, a', c', b', rfl, hby1, hb1⟩⟩
  · have HE : Hid (inE fl n s X len = 230) := Lib.hid (by unfold inE; rw [if_pos hpf])
    have HB1 := Lib.hid hB1
    clear hB1 hpf PA
    go_wp2_with fail
    exact bodyPost_ret (v := .tuple #[.int .i64 0, .int .i64 230]) (by simp [results, Try.results6, go_sem]) rfl ⟨by rw [inN, HE.out]; rfl, ⟨m, by rw [inS, HE.out]; exact (HX0.out.cnt (Nat.le_succ _)).step (HB1.out.alloc HB1.out.size _)⟩, BS.new (HB1.out.alloc HB1.out.size _) HMW.out⟩
  have HPT := Lib.hid hpt
  obtain ⟨N, hN⟩ : ∃ N, N = W1.heap.size := ⟨_, rfl⟩
  obtain ⟨W2, hW2⟩ : ∃ Y, Y = W1.alloc (.cells #[.int .i64 0, .int .i64 (X 1 : Nat), .int .i64 (X 2 : Nat), .slice a' ((len - 8 : Nat)) c'] 53) := ⟨_, rfl⟩
  have hB2 : Below W1.heap.size W1 W2 := by rw [hW2]; exact alloc_b _ _
  have hp : Blk W2 N #[.int .i64 0, .int .i64 (X 1 : Nat), .int .i64 (X 2 : Nat), .slice a' ((len - 8 : Nat)) c'] 53 := by rw [hW2, hN]; exact blk_new _ _ _
  have hx2 := (HX0.out.step hB1).step hB2
  have HBW2 : Hid (Below W.heap.size W W2.drew) := Lib.hid ((hB1.trans (hB2.mono hB1.size)).drew)
  have HX := Lib.hid (hx2.step ((Below.refl W2.heap.size W2).drew))
  have HP := Lib.hid (hp.step ((Below.refl W2.heap.size W2).drew))
  have HBY := Lib.hid (ByIn.below (ByIn.below hby1 hB2) ((Below.refl W2.heap.size W2).drew))
  have HNM : Hid (0 ≤ s.num ∧ s.num ≤ c ∧ W.heap.size ≤ N ∧ (8 ≤ len ∧ len ≤ 1500)) := Lib.hid ⟨hx2.nm.1, hx2.nm.2, by rw [hN]; exact hB1.size, by
    have := hpt
    unfold parseOk at this
    simp only [Bool.and_eq_true, decide_eq_true_eq] at this
    exact this.1⟩
  have FLW := Lib.hid (flow_any 0 (X 1 : Nat) (X 2 : Nat) a' (len - 8) c' (some ⟨m.fb, 0, none⟩) n m.fc m.fb 0 fl W2.drew (HX.out.r.flow HF.out.fok))
  have HNE : Hid (0 < len - 8 → b' ≠ N) := Lib.hid (fun h0 => by have := (hby1.at_ h0).2; rw [hN]; omega)
  clear hB1 hpt hby1 hb1 hB2 hp hx2 PA
  go_upto_region 4 with fail
  rw [← hN, ← hW2]
  clear hN hW2
  go_wp2_with fail
  refine wp_region_held_drew (S := fun Y => Y.cell? ⟨S, 0, none⟩ = some (.slice (some ⟨m.fb, 0, none⟩) n m.fc) ∧ Y.cell? ⟨N, 0, none⟩ = some (.int .i64 0) ∧ Y.cell? ⟨N, 1, none⟩ = some (.int .i64 (X 1 : Nat)) ∧ Y.cell? ⟨N, 2, none⟩ = some (.int .i64 (X 2 : Nat)) ∧ Y.cell? ⟨N, 3, none⟩ = some (.slice a' ((len - 8 : Nat)) c') ∧ S < Y.heap.size ∧ N < Y.heap.size) (by kernel_rfl) ⟨HX.out.c.c0, cell_at HP.out 0, cell_at HP.out 1, cell_at HP.out 2, cell_at HP.out 3, HX.out.c.l, HP.out.lt⟩ (fun hHeld => ?_)
  ((refine wpAnyH_take (i := 0) (v := ?_) (by (simp only [List.getElem?_toArray, List.getElem?_cons_succ, List.getElem?_cons_zero]); rfl) (by kernel_rfl) (by kernel_rfl) (by kernel_rfl) (by exact fun _ _ _ h => h) (Or.inl ⟨by rfl, ?_⟩) (by assumption) ?_); rotate_left; focus (intro wS hSw; (try dsimp only at hSw); go_simp; first | done | with_reducible rfl); try simp only [Act.put, List.setIfInBounds_toArray, List.set_cons_zero, List.set_cons_succ])
  ((refine wpAnyH_take (i := 1) (v := ?_) (by (simp only [List.getElem?_toArray, List.getElem?_cons_succ, List.getElem?_cons_zero]); rfl) (by kernel_rfl) (by kernel_rfl) (by kernel_rfl) (by exact fun _ _ _ h => h) (Or.inl ⟨by rfl, ?_⟩) (by assumption) ?_); rotate_left; focus (intro wS hSw; (try dsimp only at hSw); go_simp; first | done | with_reducible rfl); try simp only [Act.put, List.setIfInBounds_toArray, List.set_cons_zero, List.set_cons_succ])
  ((refine wpAnyH_take (i := 2) (v := ?_) (by (simp only [List.getElem?_toArray, List.getElem?_cons_succ, List.getElem?_cons_zero]); rfl) (by kernel_rfl) (by kernel_rfl) (by kernel_rfl) (by exact fun _ _ _ h => h) (Or.inl ⟨by rfl, ?_⟩) (by assumption) ?_); rotate_left; focus (intro wS hSw; (try dsimp only at hSw); go_simp; first | done | with_reducible rfl); try simp only [Act.put, List.setIfInBounds_toArray, List.set_cons_zero, List.set_cons_succ])
  ((refine wpAnyH_take (i := 3) (v := ?_) (by (simp only [List.getElem?_toArray, List.getElem?_cons_succ, List.getElem?_cons_zero]); rfl) (by kernel_rfl) (by kernel_rfl) (by kernel_rfl) (by exact fun _ _ _ h => h) (Or.inl ⟨by rfl, ?_⟩) (by assumption) ?_); rotate_left; focus (intro wS hSw; (try dsimp only at hSw); go_simp; first | done | with_reducible rfl); try simp only [Act.put, List.setIfInBounds_toArray, List.set_cons_zero, List.set_cons_succ])
  ((refine wpAnyH_take (i := 4) (v := ?_) (by (simp only [List.getElem?_toArray, List.getElem?_cons_succ, List.getElem?_cons_zero]); rfl) (by kernel_rfl) (by kernel_rfl) (by kernel_rfl) (by exact fun _ _ _ h => h) (Or.inl ⟨by rfl, ?_⟩) (by assumption) ?_); rotate_left; focus (intro wS hSw; (try dsimp only at hSw); go_simp; first | done | with_reducible rfl); try simp only [Act.put, List.setIfInBounds_toArray, List.set_cons_zero, List.set_cons_succ])
  refine wpAnyH_ready (rs := [5]) (by kernel_rfl) (by simp) ?_
  refine AllReadyH.cons (by (simp only [List.getElem?_toArray, List.getElem?_cons_succ, List.getElem?_cons_zero]); rfl) (fun K hK => ?_) AllReadyH.nil
  go_simp
  go_fit FLW.out
  rintro e W3 ⟨rfl, hB3⟩
  have HX3 := Lib.hid (HX.out.step hB3)
  have HP3 := Lib.hid (HP.out.step hB3)
  have HBY3 := Lib.hid (ByIn.below HBY.out hB3)
  have HBW3 := Lib.hid (HBW2.out.trans (hB3.mono HBW2.out.size))
  clear hB3 HX HP HBY HBW2 FLW
  go_wp2_with fail
  refine hK.out _ _ ⟨HX3.out.c.c0, cell_at HP3.out 0, cell_at HP3.out 1, cell_at HP3.out 2, cell_at HP3.out 3, HX3.out.c.l, HP3.out.lt⟩ (fun hHeld => ?_)
  clear hK K
  try simp only [Act.put, List.setIfInBounds_toArray, List.set_cons_zero, List.set_cons_succ]
  ((refine wpAnyH_take (i := 6) (v := ?_) (by (simp only [List.getElem?_toArray, List.getElem?_cons_succ, List.getElem?_cons_zero]); rfl) (by kernel_rfl) (by kernel_rfl) (by kernel_rfl) (by exact fun _ _ _ h => h) (Or.inl ⟨by rfl, ?_⟩) (by assumption) ?_); rotate_left; focus (intro wS hSw; (try dsimp only at hSw); go_simp; first | done | with_reducible rfl); try simp only [Act.put, List.setIfInBounds_toArray, List.set_cons_zero, List.set_cons_succ])
  ((refine wpAnyH_take (i := 7) (v := ?_) (by (simp only [List.getElem?_toArray, List.getElem?_cons_succ, List.getElem?_cons_zero]); rfl) (by kernel_rfl) (by kernel_rfl) (by kernel_rfl) (by exact fun _ _ _ h => h) (Or.inl ⟨by rfl, ?_⟩) (by assumption) ?_); rotate_left; focus (intro wS hSw; (try dsimp only at hSw); go_simp; first | done | with_reducible rfl); try simp only [Act.put, List.setIfInBounds_toArray, List.set_cons_zero, List.set_cons_succ])
  ((refine wpAnyH_take (i := 8) (v := ?_) (by (simp only [List.getElem?_toArray, List.getElem?_cons_succ, List.getElem?_cons_zero]); rfl) (by kernel_rfl) (by kernel_rfl) (by kernel_rfl) (by exact fun _ _ _ h => h) (Or.inl ⟨by rfl, ?_⟩) (by assumption) ?_); rotate_left; focus (intro wS hSw; (try dsimp only at hSw); go_simp; first | done | with_reducible rfl); try simp only [Act.put, List.setIfInBounds_toArray, List.set_cons_zero, List.set_cons_succ])
  ((refine wpAnyH_take (i := 9) (v := ?_) (by (simp only [List.getElem?_toArray, List.getElem?_cons_succ, List.getElem?_cons_zero]); rfl) (by kernel_rfl) (by kernel_rfl) (by kernel_rfl) (by exact fun _ _ _ h => h) (Or.inl ⟨by rfl, ?_⟩) (by assumption) ?_); rotate_left; focus (intro wS hSw; (try dsimp only at hSw); go_simp; first | done | with_reducible rfl); try simp only [Act.put, List.setIfInBounds_toArray, List.set_cons_zero, List.set_cons_succ])
  ((refine wpAnyH_take (i := 10) (v := ?_) (by (simp only [List.getElem?_toArray, List.getElem?_cons_succ, List.getElem?_cons_zero]); rfl) (by kernel_rfl) (by kernel_rfl) (by kernel_rfl) (by exact fun _ _ _ h => h) (Or.inl ⟨by rfl, ?_⟩) (by assumption) ?_); rotate_left; focus (intro wS hSw; (try dsimp only at hSw); go_simp; first | done | with_reducible rfl); try simp only [Act.put, List.setIfInBounds_toArray, List.set_cons_zero, List.set_cons_succ])
  refine wpAnyH_done (by kernel_rfl) ?_ _
  try simp only [Act.put, List.setIfInBounds_toArray, List.set_cons_zero, List.set_cons_succ]
  by_cases hfe : flowE (X 1 : Nat) (X 2 : Nat) fl n = 0
  rotate_left
  · have d1 : (flowE (X 1 : Nat) (X 2 : Nat) fl n != 0) = true := by simpa using hfe
    have HE : Hid (inE fl n s X len = flowE (X 1 : Nat) (X 2 : Nat) fl n ∧ flowE (X 1 : Nat) (X 2 : Nat) fl n ≠ 0) := Lib.hid ⟨by unfold inE; rw [if_neg (by rw [HPT.out]; simp), if_pos hfe], hfe⟩
    obtain ⟨fe, hfe2⟩ : ∃ x, x = flowE (X 1 : Nat) (X 2 : Nat) fl n := ⟨_, rfl⟩
    rw [← hfe2] at d1 HE
    rw [← hfe2]
    clear hfe hfe2
    go_wp2_with fail
    exact bodyPost_ret (v := .tuple #[.int .i64 0, .int .i64 fe]) (by simp [results, Try.results6, go_sem]) rfl ⟨by rw [inN, HE.out.1, if_neg HE.out.2], ⟨m, by rw [inS, HE.out.1, if_neg HE.out.2]; exact HX3.out.cnt (Nat.le_succ _)⟩, BS.new HBW3.out HMW.out⟩
  obtain ⟨k, hfk, hk, hft⟩ := flow_in hfe
  have HK := Lib.hid hk
  have HIK : Hid (inK fl n X = k ∧ (fl k).t = (X 1 : Nat)) := Lib.hid ⟨by unfold inK; rw [hfk, Int.toNat_natCast], hft⟩
  have HFE := Lib.hid hfe
  rw [hfe, hfk]
  clear hfe hfk hft
  have w1 : IntKind.i64.wrap (s.num + 1) = s.num + 1 := IntWalk.i64_in _ (by have := HNM.out; have := HC.out; omega)
  have cn := HX3.out.c.cn
  have cl := HX3.out.c.l
  have p0 : W3.cell? ⟨N, 0, none⟩ = some (.int .i64 0) := cell_at HP3.out 0
  have pz : ∀ j, W3.frozen? ⟨N, j, none⟩ = false := fun j => free_at HP3.out j
  have pl := HP3.out.lt
  obtain ⟨W4, hW4⟩ : ∃ Y, Y = W3.setCell ⟨N, 0, none⟩ (.int .i64 (s.num + 1)) := ⟨_, rfl⟩
  have hf4 : Fr [N] W3 W4 := by rw [hW4]; exact (Fr.refl _ _).setCell _ (.inl (by simp)) _
  have hp4 : Blk W4 N #[.int .i64 (s.num + 1), .int .i64 (X 1 : Nat), .int .i64 (X 2 : Nat), .slice a' ((len - 8 : Nat)) c'] 53 := by rw [hW4]; exact HP3.out.set 0 _
  have hB4 : Below W.heap.size W W4 := HBW3.out.trans (hf4.below HBW3.out.size (by simpa using HNM.out.2.2.1))
  have HBW4 := Lib.hid hB4.drew
  have HX4 := Lib.hid (HX0.out.step hB4.drew)
  have HP4 := Lib.hid (show Blk W4.drew N _ _ from hp4)
  have hby4 : ByIn W4 a' (len - 8) c' b' 0 (fun j => X (8 + j)) := by
    refine ⟨HBY3.out.le, HBY3.out.max, fun h0 => ⟨(HBY3.out.at_ h0).1, by have := (HBY3.out.at_ h0).2; have := hf4.size; omega⟩, fun j hj => ?_, HBY3.out.bd⟩
    exact (cell_congr (hf4.block b' (HBY3.out.at_ (by omega)).2 (by have := HNE.out (by omega); simpa using this)) _).trans (HBY3.out.cell j hj)
  have HBY4 := Lib.hid (show ByIn W4.drew a' (len - 8) c' b' 0 (fun j => X (8 + j)) from hby4.below ((Below.refl _ _).drew))
  have HD := Lib.hid (show m.D k < N ∧ m.R k < N ∧ S < N from by
    obtain ⟨cr, hcr⟩ := (HX0.out.q.qs k hk).rblk
    have := (HX0.out.q.qs k hk).own.lt
    have := hcr.lt
    have := HX0.out.blk.lt
    have := HNM.out.2.2.1
    omega)
  have b1 : (k < n) = True := eq_true hk
  have b2 : ((k : Int) < (n : Int)) = True := eq_true (by omega)
  have b0 : ((0 : Int) ≤ (k : Int)) = True := eq_true (by omega)
  clear hf4 hp4 hB4 hby4 hk HBY3 HX3 HP3 HBW3
  go_upto_region 10 with fail
  rw [← hW4]
  clear hW4 cn cl p0 pz pl w1
  go_wp2_with fail
  refine wp_region_held_drew (S := fun Y => Y.cell? ⟨S, 1, none⟩ = some (.slice (some ⟨m.qb, 0, none⟩) n m.qc) ∧ Y.cell? ⟨m.qb, k, none⟩ = some (.pointer (some ⟨m.D k, 0, none⟩)) ∧ Y.cell? ⟨N, 0, none⟩ = some (.int .i64 (s.num + 1)) ∧ Y.cell? ⟨N, 1, none⟩ = some (.int .i64 (X 1 : Nat)) ∧ Y.cell? ⟨N, 2, none⟩ = some (.int .i64 (X 2 : Nat)) ∧ Y.cell? ⟨N, 3, none⟩ = some (.slice a' ((len - 8 : Nat)) c') ∧ S < Y.heap.size ∧ N < Y.heap.size ∧ m.qb < Y.heap.size) (by kernel_rfl) ⟨HX4.out.c.c1, (HX4.out.r.qat HK.out).1, cell_at HP4.out 0, cell_at HP4.out 1, cell_at HP4.out 2, cell_at HP4.out 3, HX4.out.c.l, HP4.out.lt, (HX4.out.r.qat HK.out).2⟩ (fun hHeld => ?_)
  ((refine wpAnyH_take (i := 0) (v := ?_) (by (simp only [List.getElem?_toArray, List.getElem?_cons_succ, List.getElem?_cons_zero]); rfl) (by kernel_rfl) (by kernel_rfl) (by kernel_rfl) (by exact fun _ _ _ h => h) (Or.inl ⟨by rfl, ?_⟩) (by assumption) ?_); rotate_left; focus (intro wS hSw; (try dsimp only at hSw); go_simp; first | done | with_reducible rfl); try simp only [Act.put, List.setIfInBounds_toArray, List.set_cons_zero, List.set_cons_succ])
  ((refine wpAnyH_take (i := 1) (v := ?_) (by (simp only [List.getElem?_toArray, List.getElem?_cons_succ, List.getElem?_cons_zero]); rfl) (by kernel_rfl) (by kernel_rfl) (by kernel_rfl) (by exact fun _ _ _ h => h) (Or.inl ⟨by rfl, ?_⟩) (by assumption) ?_); rotate_left; focus (intro wS hSw; (try dsimp only at hSw); go_simp; first | done | with_reducible rfl); try simp only [Act.put, List.setIfInBounds_toArray, List.set_cons_zero, List.set_cons_succ])
  ((refine wpAnyH_take (i := 2) (v := ?_) (by (simp only [List.getElem?_toArray, List.getElem?_cons_succ, List.getElem?_cons_zero]); rfl) (by kernel_rfl) (by kernel_rfl) (by kernel_rfl) (by exact fun _ _ _ h => h) (Or.inl ⟨by rfl, ?_⟩) (by assumption) ?_); rotate_left; focus (intro wS hSw; (try dsimp only at hSw); go_simp; first | done | with_reducible rfl); try simp only [Act.put, List.setIfInBounds_toArray, List.set_cons_zero, List.set_cons_succ])
  ((refine wpAnyH_take (i := 3) (v := ?_) (by (simp only [List.getElem?_toArray, List.getElem?_cons_succ, List.getElem?_cons_zero]); rfl) (by kernel_rfl) (by kernel_rfl) (by kernel_rfl) (by exact fun _ _ _ h => h) (Or.inl ⟨by rfl, ?_⟩) (by assumption) ?_); rotate_left; focus (intro wS hSw; (try dsimp only at hSw); go_simp; first | done | with_reducible rfl); try simp only [Act.put, List.setIfInBounds_toArray, List.set_cons_zero, List.set_cons_succ])
  ((refine wpAnyH_take (i := 4) (v := ?_) (by (simp only [List.getElem?_toArray, List.getElem?_cons_succ, List.getElem?_cons_zero]); rfl) (by kernel_rfl) (by kernel_rfl) (by kernel_rfl) (by exact fun _ _ _ h => h) (Or.inl ⟨by rfl, ?_⟩) (by assumption) ?_); rotate_left; focus (intro wS hSw; (try dsimp only at hSw); go_simp; first | done | with_reducible rfl); try simp only [Act.put, List.setIfInBounds_toArray, List.set_cons_zero, List.set_cons_succ])
  ((refine wpAnyH_take (i := 5) (v := ?_) (by (simp only [List.getElem?_toArray, List.getElem?_cons_succ, List.getElem?_cons_zero]); rfl) (by kernel_rfl) (by kernel_rfl) (by kernel_rfl) (by exact fun _ _ _ h => h) (Or.inl ⟨by rfl, ?_⟩) (by assumption) ?_); rotate_left; focus (intro wS hSw; (try dsimp only at hSw); go_simp; first | done | with_reducible rfl); try simp only [Act.put, List.setIfInBounds_toArray, List.set_cons_zero, List.set_cons_succ])
  ((refine wpAnyH_take (i := 6) (v := ?_) (by (simp only [List.getElem?_toArray, List.getElem?_cons_succ, List.getElem?_cons_zero]); rfl) (by kernel_rfl) (by kernel_rfl) (by kernel_rfl) (by exact fun _ _ _ h => h) (Or.inl ⟨by rfl, ?_⟩) (by assumption) ?_); rotate_left; focus (intro wS hSw; (try dsimp only at hSw); go_simp; first | done | with_reducible rfl); try simp only [Act.put, List.setIfInBounds_toArray, List.set_cons_zero, List.set_cons_succ])
  ((refine wpAnyH_take (i := 7) (v := ?_) (by (simp only [List.getElem?_toArray, List.getElem?_cons_succ, List.getElem?_cons_zero]); rfl) (by kernel_rfl) (by kernel_rfl) (by kernel_rfl) (by exact fun _ _ _ h => h) (Or.inl ⟨by rfl, ?_⟩) (by assumption) ?_); rotate_left; focus (intro wS hSw; (try dsimp only at hSw); go_simp; first | done | with_reducible rfl); try simp only [Act.put, List.setIfInBounds_toArray, List.set_cons_zero, List.set_cons_succ])
  refine wpAnyH_ready (rs := [8]) (by kernel_rfl) (by simp) ?_
  refine AllReadyH.cons (by (simp only [List.getElem?_toArray, List.getElem?_cons_succ, List.getElem?_cons_zero]); rfl) (fun K hK => ?_) AllReadyH.nil
  go_simp
  by_cases hfull : (s.q k).length = (fl k).r.toNat
  · go_fit (fpush_full (m.D k) (m.R k) 0 (fl k).r.toNat (m.f k) (s.q k).length (sumZ (s.q k)) (m.dr k) (m.E k) (s.num + 1) (X 1 : Nat) (X 2 : Nat) a' (len - 8) c' W4.drew (HX4.out.q.qs k HK.out) hfull b' 0 _ HBY4.out (by have := HNM.out; omega) (by have := HX4.out.q.dr k HK.out; have := HC.out; omega))
    rintro e W5 ⟨rfl, hq5, hf5⟩
    have HE : Hid (inE fl n s X len = 100) := Lib.hid (by unfold inE; rw [if_neg (by rw [HPT.out]; simp), if_neg (by rw [HFE.out]; simp), HIK.out.1, if_pos hfull])
    have hx5 := (HX4.out.cnt (Nat.le_succ c)).queue HK.out hf5 hq5 rfl (HX4.out.q.qd k HK.out) (HX4.out.q.qt k HK.out) (fun j hj h0 => by
      obtain ⟨cr, hcr⟩ := (HX4.out.q.qs k HK.out).rblk
      obtain ⟨cs, hb⟩ := HX4.out.q.ld k HK.out j hj h0
      exact ⟨cs, (blk_ot hb hf5 (l := [5]) (ot_cons (HX4.out.q.qs k HK.out).own (by decide) (ot_one hcr (by decide))) (by simp)).trans hb⟩) (by have := HX4.out.q.dr k HK.out; omega)
    rw [upf_same s.q] at hx5
    have HX5 := Lib.hid hx5
    have HP5 : Hid (Blk W5 N #[.int .i64 (s.num + 1), .int .i64 (X 1 : Nat), .int .i64 (X 2 : Nat), .slice a' ((len - 8 : Nat)) c'] 53) := Lib.hid ((hf5.block N HP4.out.lt (by have := HD.out; simp; omega)).trans HP4.out)
    have HSB : Hid (BS M W W5) := Lib.hid ((BS.new HBW4.out HMW.out).trans (BS.fr hf5 (by have := HBW4.out.size; have := HMW.out; omega) (fun q hq => by
      obtain ⟨cr, hcr⟩ := (HX4.out.q.qs k HK.out).rblk
      have hg := HX4.out.q.ge k HK.out
      simp only [List.mem_cons, List.not_mem_nil, or_false] at hq
      rcases hq with rfl | rfl
      · exact ⟨hg.1, _, _, (HX4.out.q.qs k HK.out).own, by decide⟩
      · exact ⟨hg.2, _, _, hcr, by decide⟩)))
    have HS5 := Lib.hid (show W5.cell? ⟨S, 1, none⟩ = some (.slice (some ⟨m.qb, 0, none⟩) n m.qc) ∧ W5.cell? ⟨m.qb, k, none⟩ = some (.pointer (some ⟨m.D k, 0, none⟩)) ∧ W5.cell? ⟨N, 0, none⟩ = some (.int .i64 (s.num + 1)) ∧ W5.cell? ⟨N, 1, none⟩ = some (.int .i64 (X 1 : Nat)) ∧ W5.cell? ⟨N, 2, none⟩ = some (.int .i64 (X 2 : Nat)) ∧ W5.cell? ⟨N, 3, none⟩ = some (.slice a' ((len - 8 : Nat)) c') ∧ S < W5.heap.size ∧ N < W5.heap.size ∧ m.qb < W5.heap.size from ⟨HX5.out.c.c1, (HX5.out.r.qat HK.out).1, cell_at HP5.out 0, cell_at HP5.out 1, cell_at HP5.out 2, cell_at HP5.out 3, HX5.out.c.l, HP5.out.lt, (HX5.out.r.qat HK.out).2⟩)
    clear hq5 hf5 hx5 hfull HX4 HP4 HBY4 HBW4
    go_wp2_with fail
    refine hK.out _ _ HS5.out (fun hHeld => ?_)
    clear hK K
    try simp only [Act.put, List.setIfInBounds_toArray, List.set_cons_zero, List.set_cons_succ]
    ((refine wpAnyH_take (i := 9) (v := ?_) (by (simp only [List.getElem?_toArray, List.getElem?_cons_succ, List.getElem?_cons_zero]); rfl) (by kernel_rfl) (by kernel_rfl) (by kernel_rfl) (by exact fun _ _ _ h => h) (Or.inl ⟨by rfl, ?_⟩) (by assumption) ?_); rotate_left; focus (intro wS hSw; (try dsimp only at hSw); go_simp; first | done | with_reducible rfl); try simp only [Act.put, List.setIfInBounds_toArray, List.set_cons_zero, List.set_cons_succ])
    refine wpAnyH_done (by kernel_rfl) ?_ _
    try simp only [Act.put, List.setIfInBounds_toArray, List.set_cons_zero, List.set_cons_succ]
    clear HS5
    go_wp2_with fail
    exact bodyPost_ret (v := .tuple #[.int .i64 0, .int .i64 100]) (by simp [results, Try.results6, go_sem]) rfl ⟨by rw [inN, HE.out]; rfl, ⟨_, by rw [inS, HE.out, if_neg (by decide)]; exact HX5.out⟩, HSB.out⟩
  · go_fit (fpush_t (m.D k) (m.R k) 0 (fl k).r.toNat (m.f k) (s.q k).length (sumZ (s.q k)) (m.dr k) (m.E k) (s.num + 1) (X 1 : Nat) (X 2 : Nat) a' (len - 8) c' W4.drew (HX4.out.q.qs k HK.out) (by have := (HX4.out.q.qs k HK.out).nl; omega) b' 0 _ HBY4.out (by have := HNM.out; omega) (by have := (HX4.out.q.sz HK.out).1; omega))
    rintro e W5 ⟨rfl, ⟨a5, c5, b5, hb5, hq5⟩, hf5⟩
    have HE : Hid (inE fl n s X len = 0) := Lib.hid (by unfold inE; rw [if_neg (by rw [HPT.out]; simp), if_neg (by rw [HFE.out]; simp), HIK.out.1, if_neg hfull])
    obtain ⟨m5, hx5⟩ := push_at (p := ⟨s.num + 1, (X 1 : Nat), (X 2 : Nat), a5, len - 8, c5, b5, 0, fun j => X (8 + j)⟩) HX4.out HK.out hf5 hq5 (fun h0 => (hb5 h0).2) ⟨HIK.out.2.symm, by have h2 := HXB.out 2; show (0 : Int) ≤ (X 2 : Nat) ∧ ((X 2 : Nat) : Int) ≤ 255; omega, by show len - 8 ≤ 1492; have := HNM.out; omega⟩
    have HX5 := Lib.hid hx5
    have HP5 : Hid (Blk W5 N #[.int .i64 (s.num + 1), .int .i64 (X 1 : Nat), .int .i64 (X 2 : Nat), .slice a' ((len - 8 : Nat)) c'] 53) := Lib.hid ((hf5.block N HP4.out.lt (by have := HD.out; simp; omega)).trans HP4.out)
    have HSB : Hid (BS M W W5) := Lib.hid ((BS.new HBW4.out HMW.out).trans (BS.fr hf5 (by have := HBW4.out.size; have := HMW.out; omega) (fun q hq => by
      obtain ⟨cr, hcr⟩ := (HX4.out.q.qs k HK.out).rblk
      have hg := HX4.out.q.ge k HK.out
      simp only [List.mem_cons, List.not_mem_nil, or_false] at hq
      rcases hq with rfl | rfl
      · exact ⟨hg.1, _, _, (HX4.out.q.qs k HK.out).own, by decide⟩
      · exact ⟨hg.2, _, _, hcr, by decide⟩)))
    have hq1 : W5.cell? ⟨m.qb, k, none⟩ = some (.pointer (some ⟨m.D k, 0, none⟩)) ∧ m.qb < W5.heap.size ∧ W5.cell? ⟨S, 1, none⟩ = some (.slice (some ⟨m.qb, 0, none⟩) n m.qc) := by
      have ho : OT W4.drew [m.D k, m.R k] [65, 64] := by
        obtain ⟨cr, hcr⟩ := (HX4.out.q.qs k HK.out).rblk
        exact ot_cons (HX4.out.q.qs k HK.out).own (by decide) (ot_one hcr (by decide))
      obtain ⟨cs, hcs⟩ := blk_row HX4.out.r.qr
      have h1 := blk_ot hcs hf5 ho (by simp)
      have h2 := blk_ot HX4.out.blk hf5 ho (by simp)
      exact ⟨(cell_congr h1 _).trans (HX4.out.r.qat HK.out).1, by have := hcs.lt; have := hf5.size; omega, (cell_congr h2 _).trans HX4.out.c.c1⟩
    have HS5 := Lib.hid (show W5.cell? ⟨S, 1, none⟩ = some (.slice (some ⟨m.qb, 0, none⟩) n m.qc) ∧ W5.cell? ⟨m.qb, k, none⟩ = some (.pointer (some ⟨m.D k, 0, none⟩)) ∧ W5.cell? ⟨N, 0, none⟩ = some (.int .i64 (s.num + 1)) ∧ W5.cell? ⟨N, 1, none⟩ = some (.int .i64 (X 1 : Nat)) ∧ W5.cell? ⟨N, 2, none⟩ = some (.int .i64 (X 2 : Nat)) ∧ W5.cell? ⟨N, 3, none⟩ = some (.slice a' ((len - 8 : Nat)) c') ∧ S < W5.heap.size ∧ N < W5.heap.size ∧ m.qb < W5.heap.size from ⟨hq1.2.2, hq1.1, cell_at HP5.out 0, cell_at HP5.out 1, cell_at HP5.out 2, cell_at HP5.out 3, HX5.out.c.l, HP5.out.lt, hq1.2.1⟩)
    clear hq5 hf5 hb5 hx5 hfull hq1 HX4 HP4 HBY4 HBW4
    go_wp2_with fail
    refine hK.out _ _ HS5.out (fun hHeld => ?_)
    clear hK K
    try simp only [Act.put, List.setIfInBounds_toArray, List.set_cons_zero, List.set_cons_succ]
    ((refine wpAnyH_take (i := 9) (v := ?_) (by (simp only [List.getElem?_toArray, List.getElem?_cons_succ, List.getElem?_cons_zero]); rfl) (by kernel_rfl) (by kernel_rfl) (by kernel_rfl) (by exact fun _ _ _ h => h) (Or.inl ⟨by rfl, ?_⟩) (by assumption) ?_); rotate_left; focus (intro wS hSw; (try dsimp only at hSw); go_simp; first | done | with_reducible rfl); try simp only [Act.put, List.setIfInBounds_toArray, List.set_cons_zero, List.set_cons_succ])
    refine wpAnyH_done (by kernel_rfl) ?_ _
    try simp only [Act.put, List.setIfInBounds_toArray, List.set_cons_zero, List.set_cons_succ]
    clear HS5 b0 b1 b2
    have cn := HX5.out.c.cn
    have cl := HX5.out.c.l
    have cz := HX5.out.c.z
    have w1 : IntKind.i64.wrap (s.num + 1) = s.num + 1 := IntWalk.i64_in _ (by have := HNM.out; have := HC.out; omega)
    obtain ⟨W6, hW6⟩ : ∃ Y, Y = W5.setCell ⟨S, 21, none⟩ (.int .i64 (s.num + 1)) := ⟨_, rfl⟩
    have h6 := HX5.out.numset (c' := c + 1) (v := s.num + 1) (by have := HNM.out; omega) (Nat.le_succ _) hW6
    have HX6 := Lib.hid h6.1
    have HSB6 := Lib.hid (HSB.out.trans (BS.fr h6.2 (Nat.le_trans HMW.out HSB.out.size) (by simpa using ⟨HX5.out.ge, _, _, HX5.out.blk, by decide⟩)))
    clear h6
    go_upto_region 14 with fail
    rw [← hW6]
    clear hW6 cn cl cz w1 HX5 HP5 HSB
    have cn : W6.cell? ⟨S, 21, none⟩ = some (.int .i64 (s.num + 1)) := HX6.out.c.cn
    have cl := HX6.out.c.l
    go_wp2_with fail
    go_ret2
    exact ⟨by rw [inN, HE.out]; rfl, ⟨m5, by rw [inS, HE.out, if_pos rfl, HIK.out.1]; exact HX6.out⟩, HSB6.out⟩
end Go.Proofs.Ytoodmocapagapaa
namespace Go.Proofs.Ytoodmocapagapaa
open Go.RowKit
set_option linter.unusedSimpArgs false
set_option linter.unusedVariables false

theorem infoFlow : (Try.prog.info? 51).map (fun i => (i.zero, i.size, i.bytes)) = some (some (.agg #[.int .i64 0, .int .i64 0, .int .i64 0]), 3, 24) := by kernel_rfl
theorem flowL_of {w : World} {a : Option Addr} {n c b o : Nat} {T : Nat → FlowE} (h : FlowIn w a n c b o T) (j : Nat) (u : Value) (hu : (flowL T n)[j]? = some u) : a = some ⟨b, o, none⟩ ∧ b < w.heap.size ∧ w.cell? ⟨b, o + j, none⟩ = some u := by
  have hj : j < n * 3 := by
    have := (List.getElem?_eq_some_iff.1 hu).1
    rwa [flowL_len] at this
  have h1 := flowL_at T n (j / 3) (j % 3) (by omega) (by omega)
  rw [show j / 3 * 3 + j % 3 = j by omega, hu] at h1
  obtain ⟨e1, e2⟩ := h.at_ (by omega)
  obtain ⟨c0, c1, c2⟩ := h.cell (j / 3) (by omega)
  refine ⟨e1, e2, ?_⟩
  rcases (show j % 3 = 0 ∨ j % 3 = 1 ∨ j % 3 = 2 by omega) with e | e | e
  · rw [e] at h1
    obtain rfl : u = .int .i64 (T (j / 3)).t := by simpa [FlowE.cells] using h1
    rw [show o + j = o + j / 3 * 3 by omega]
    exact c0
  · rw [e] at h1
    obtain rfl : u = .int .i64 (T (j / 3)).w := by simpa [FlowE.cells] using h1
    rw [show o + j = o + j / 3 * 3 + 1 by omega]
    exact c1
  · rw [e] at h1
    obtain rfl : u = .int .i64 (T (j / 3)).r := by simpa [FlowE.cells] using h1
    rw [show o + j = o + j / 3 * 3 + 2 by omega]
    exact c2
theorem flowL_one (T : Nat → FlowE) (n : Nat) : ∀ u ∈ flowL T n, u.oneCell' = true := fun u hu => by
  simp only [flowL, List.mem_flatMap] at hu
  obtain ⟨p, _, hu⟩ := hu
  simp [FlowE.cells] at hu
  rcases hu with rfl | rfl | rfl <;> rfl
def FCloneP (w : World) (n : Nat) (T : Nat → FlowE) (r : Ending) (w' : World) : Prop := ∃ a c ob, r = .returned (.slice a n c) ∧ Row w' (.slice a n c) ob 51 3 n (flowL T n) ∧ Below w.heap.size w w' ∧ ∀ g, ob = some g → w.heap.size ≤ g

set_option maxHeartbeats 1000000 in
set_option maxRecDepth 100000 in
theorem fclone_any (a : Option Addr) (n c b o : Nat) (T : Nat → FlowE) (w : World) (hs : FlowIn w a n c b o T) (hn : n * 24 ≤ 140737488351232) :
    Calls Try.prog 34 #[.slice a n c] w (FCloneP w n T) := by
  cases a with
  | none =>
    have h0 : n = 0 := by
      rcases Nat.eq_zero_or_pos n with e | e
      · exact e
      · cases (hs.at_ e).1
    subst h0
    have heq := fun W n => eql_nil W 36 51 none n c Try.underlying36
    go_enter Try.func34, Try.ntmps34
    go_wp2
    go_ret
    exact ⟨_, _, none, rfl, Row.nil _ _ _, Below.refl _ _, fun g hg => (nomatch hg)⟩
  | some x =>
    have hc : ∀ j u, (flowL T n)[j]? = some u → w.cell? (x.add j) = some u := fun j u hu => by
      obtain ⟨e1, e2, e3⟩ := flowL_of hs j u hu
      obtain rfl := Option.some.inj e1
      rw [addr_pl]
      exact e3
    have hxl : ∀ j u, (flowL T n)[j]? = some u → (x.add j).block < w.heap.size := fun j u hu => by
      obtain ⟨e1, e2, e3⟩ := flowL_of hs j u hu
      obtain rfl := Option.some.inj e1
      rw [addr_pl]
      exact e2
    obtain ⟨i0, hi, hz0, hz1, hz2⟩ := info_parts infoFlow
    have HI := Lib.hid hi
    have hlen := flowL_len T n
    have hone := flowL_one T n
    have HT : Hid (∀ v, v = flowL T n → v = flowL T n) := Lib.hid (fun _ h => h)
    obtain ⟨cs, hcs⟩ : ∃ cs, cs = flowL T n := ⟨_, rfl⟩
    rw [← hcs] at hc hxl hlen hone
    have HC := Lib.hid hc
    have HX := Lib.hid hxl
    have HCS := Lib.hid hcs
    clear hs hi hcs hc hxl HT
    have heq := fun W => eql_nil W 36 51 (some x) n c Try.underlying36
    go_enter Try.func34, Try.ntmps34
    have hown0 : (w.alloc (.cells #[] 51)).ownsRow w.heap.size 51 3 (.slice (some ⟨w.heap.size, 0, none⟩) 0 0) 0 [] :=
      ⟨rfl, .inr ⟨w.heap.size, 0, #[], rfl, Nat.le_refl _, heap_alloc_new w _, Nat.le_refl _, Nat.zero_le _, rfl, rfl⟩⟩
    go_wp2_with (at_builtin; refine wpList_append_own _ rfl (.tmp 5) (.tmp 6) 36 rfl w.heap.size 51 i0 (.agg #[.int .i64 0, .int .i64 0, .int .i64 0]) 3 24 Try.underlying36 HI.out hz0 hz1 hz2 rfl (by decide) _ _ _ rfl hown0 x n c cs rfl hlen ?c1 ?c2 ?c3 ?c4 ?c5 ?_)
    case c1 =>
      intro j u hj
      exact (((Below.refl w.heap.size w).alloc (Nat.le_refl _) _).cell (HX.out j u hj)).trans (HC.out j u hj)
    case c2 => exact hone
    case c3 => unfold maxLen; omega
    case c4 => omega
    case c5 => simp
    intro v' w2 hown' hgrow _
    have hB : Below w.heap.size w w2 := ((Below.refl w.heap.size w).alloc (Nat.le_refl _) (.cells #[] 51)).grown hgrow (by simp) (fun j e => (hown0.lt j e).1)
    clear hgrow hown0
    have hown' : w2.ownsRow w.heap.size 51 3 v' n cs := by simpa using hown'
    have hRow : Row w2 v' v'.ownBlock 51 3 n cs := ⟨own_mono hown' (Nat.zero_le _), rfl⟩
    have hge : ∀ g, v'.ownBlock = some g → w.heap.size ≤ g := fun g hg => (hown'.lt g hg).1
    have HR := Lib.hid hRow
    obtain ⟨a2, c2, rfl, _, _, _⟩ := hRow.shape
    have HG := Lib.hid hge
    clear hRow hown' hge
    go_wp2
    go_ret
    exact ⟨_, _, _, rfl, by rw [← HCS.out]; exact HR.out, hB, HG.out⟩


theorem qpInfo : (Try.prog.info? 65).map (fun i => (i.zero, i.size, i.bytes)) = some (some (.pointer none), 1, 8) := by kernel_rfl
theorem qp_grow {W : World} {M b n : Nat} {ty : TypeId} {v : Value} {ob : Option Nat} {D : Nat → Nat} {d : Nat} (h : Row W v ob 65 1 n (qpL D n)) (hO : ∀ g, ob = some g → M ≤ g) (hd : D n = d) (hb : Blk W b #[.pointer (some ⟨d, 0, none⟩)] 65) (hM : M ≤ W.heap.size) (hn : n ≤ 1000) :
    ∃ v' ob' w', (Builtin.append_ #[61, 61] ty #[v, .slice (some ⟨b, 0, none⟩) 1 1]).run Try.prog W = .ok v' w' ∧ Row w' v' (some ob') 65 1 (n + 1) (qpL D (n + 1)) ∧ M ≤ ob' ∧ Fr ob.toList W w' ∧ Below M W w' := by
  obtain ⟨i0, hi, hz0, hz1, hz2⟩ := info_parts qpInfo
  obtain ⟨v', ob', w', hrun, s1, s2, s3⟩ := run_append_row (P := Try.prog) W 61 ty 65 i0 _ 1 8 Try.underlying61 hi hz0 hz1 hz2 rfl (by decide) v ob n (qpL D n) h ⟨b, 0, none⟩ 1 1 [.pointer (some ⟨d, 0, none⟩)] (by decide) rfl (fun j x hx => by
    rw [addr_add, cell_at hb, Nat.zero_add]
    simpa using hx) (by simp [Value.oneCell']) (by unfold maxLen; omega) (by omega)
  refine ⟨v', ob', w', hrun, by rw [qpL_succ, hd]; exact s1, ?_, fr_grown s2, (Below.refl M W).grown s2 hM hO⟩
  rcases s3 with h | h
  · exact hO _ h
  · omega
def s0S : SS := ⟨s0F, fun _ => [], fun _ => 0, 0, 0⟩
def nwC (fa : Option Addr) (n fc : Nat) (vq : Value) : Array Value := #[.slice fa n fc, vq, .pointer none, .int .i64 0, .int .i64 0, .int .i64 0, .int .i64 0, .int .i64 0, .int .i64 0, .int .i64 0, .int .i64 0, .int .i64 0, .int .i64 0, .int .i64 0, .int .i64 0, .int .i64 0, .int .i64 0, .int .i64 0, .int .i64 0, .int .i64 0, .int .i64 0, .int .i64 0]
/-- a shaper under making -/
structure MkS (W0 W : World) (S : Nat) (fl : Nat → FlowE) (n k : Nat) (fa : Option Addr) (fc : Nat) (o1 : Option Nat) (vq : Value) (oq : Option Nat) (v5 : Value) (o5 : Option Nat) (D R : Nat → Nat) (E : Nat → Nat → PkE) : Prop where
  blk : Blk W S (nwC fa n fc vq) 64
  flr : Row W (.slice fa n fc) o1 51 3 n (flowL fl n)
  qr : Row W vq oq 65 1 k (qpL D k)
  q : ShQ W W0.heap.size fl k 0 D R (fun _ => 0) (fun _ => 0) E (fun _ => [])
  wt : InO W0.heap.size W v5 o5 (wL fl k)
  b : Below W0.heap.size W0 W
  ge : W0.heap.size ≤ S ∧ (∀ g, o1 = some g → W0.heap.size ≤ g) ∧ (∀ g, oq = some g → W0.heap.size ≤ g)
  ok : ∀ j, j < k → (1 ≤ (fl j).t ∧ (fl j).t ≤ 16) ∧ 1 ≤ (fl j).r ∧ (fl j).r ≤ 64
def mkTy : List TypeId := [64, 51, 65, 91, 53, 5, 3]
section
variable {W0 W W' : World} {S : Nat} {fl : Nat → FlowE} {n k : Nat} {fa : Option Addr} {fc : Nat} {o1 : Option Nat} {vq : Value} {oq : Option Nat} {v5 : Value} {o5 : Option Nat} {D R : Nat → Nat} {E : Nat → Nat → PkE}
theorem InO.ot {A B : World} {M : Nat} {v : Value} {ob : Option Nat} {I : List Int} (h : InO M A v ob I) {L : List Nat} (hf : Fr L A B) (hl : OT A L [3]) : InO M B v ob I := ⟨row_otO h.1 hf hl (by simp), h.2⟩
theorem MkS.step (h : MkS W0 W S fl n k fa fc o1 vq oq v5 o5 D R E) (hB : Below W.heap.size W W') : MkS W0 W' S fl n k fa fc o1 vq oq v5 o5 D R E :=
  ⟨h.blk.step hB, row_otO h.flr (Fr.of_below hB) (ot_nil _ [51]) (by simp), row_otO h.qr (Fr.of_below hB) (ot_nil _ [65]) (by simp), h.q.fr (Fr.of_below hB) (ot_nil _ _), h.wt.ot (Fr.of_below hB) (ot_nil _ _), h.b.trans (hB.mono h.b.size), h.ge, h.ok⟩
end
end Go.Proofs.Ytoodmocapagapaa
namespace Go.Proofs.Ytoodmocapagapaa
open Go.RowKit
set_option linter.unusedSimpArgs false
set_option linter.unusedVariables false

theorem qpL_upf (D : Nat → Nat) (k d : Nat) : qpL (upf D k d) k = qpL D k := by
  unfold qpL
  apply List.map_congr_left
  intro j hj
  have := List.mem_range.1 hj
  rw [upf_ne _ _ (by omega)]
theorem ShQ.new {W W' : World} {M : Nat} {fl : Nat → FlowE} {k : Nat} {D R : Nat → Nat} {E : Nat → Nat → PkE} (h : ShQ W M fl k 0 D R (fun _ => 0) (fun _ => 0) E (fun _ => [])) (hB : Below W.heap.size W W') {d r : Nat} {E0 : Nat → PkE} (hq : FqIn W' d r 0 (fl k).r.toNat 0 0 0 0 E0) (hd : W.heap.size ≤ d ∧ W.heap.size ≤ r) (hM : M ≤ W.heap.size) : ShQ W' M fl (k + 1) 0 (upf D k d) (upf R k r) (fun _ => 0) (fun _ => 0) (upf E k E0) (fun _ => []) := by
  have h' := h.fr (Fr.of_below hB) (ot_nil _ _)
  have hlt : ∀ i, i < k → D i < W.heap.size ∧ R i < W.heap.size := fun i hi => by
    obtain ⟨cr, hcr⟩ := (h.qs i hi).rblk
    exact ⟨(h.qs i hi).own.lt, hcr.lt⟩
  refine ⟨fun i hi => ?_, fun i hi => rfl, fun i hi p hp => by simp at hp, fun i hi j hj => absurd hj (by simp), fun i j hi hj hij => ?_, fun i hi => by simp, fun i hi => ?_⟩
  · by_cases e : i = k
    · subst e
      rw [upf_at, upf_at, upf_at]
      exact hq
    · rw [upf_ne _ _ e, upf_ne _ _ e, upf_ne _ _ e]
      exact h'.qs i (by omega)
  · by_cases e : i = k
    · subst e
      have := hlt j (by omega)
      rw [upf_at, upf_at, upf_ne _ _ (by omega), upf_ne _ _ (by omega)]
      omega
    · by_cases e2 : j = k
      · subst e2
        have := hlt i (by omega)
        rw [upf_at, upf_at, upf_ne _ _ e, upf_ne _ _ e]
        omega
      · rw [upf_ne _ _ e, upf_ne _ _ e, upf_ne _ _ e2, upf_ne _ _ e2]
        exact h'.inj i j (by omega) (by omega) hij
  · by_cases e : i = k
    · subst e
      rw [upf_at, upf_at]
      omega
    · rw [upf_ne _ _ e, upf_ne _ _ e]
      exact h'.ge i (by omega)
theorem FrAt.wk {W : World} {M M' g fo ft n c1 c2 : Nat} {wt : Nat → Int} {al : Int} {s : FS} (h : FrAt W M g fo ft n c1 c2 wt al s) (hM : M' ≤ M) : FrAt W M' g fo ft n c1 c2 wt al s := ⟨h.blk, h.fl, h.cp, h.tg, by have := h.ge; omega⟩
structure NwP (W : World) (fl : Nat → FlowE) (n : Nat) (e : Ending) (w' : World) : Prop where
  b : Below W.heap.size W w'
  ex : (FlOk fl n ∧ ∃ S m, e = .returned (.tuple #[.pointer (some ⟨S, 0, none⟩), .int .i64 0]) ∧ ShAt w' W.heap.size S fl n 0 m s0S) ∨ (¬ FlOk fl n ∧ e = .returned (.tuple #[.pointer none, .int .i64 2]))
set_option maxRecDepth 100000 in
set_option maxHeartbeats 40000000 in
theorem new_any2 (a : Option Addr) (n cap b o : Nat) (fl : Nat → FlowE) (W : World) (hfl : FlowIn W a n cap b o fl) : Calls Try.prog 16 #[.slice a n cap] W (NwP W fl n) := by
  have m1 := hfl.le
  have m2 := hfl.max
  unfold maxLen at m2
  have HFL := Lib.hid hfl
  by_cases h8 : 8 < n
  · have d1 : decide ((8 : Int) < (n : Int)) = true := decide_eq_true (by omega)
    have HNO : Hid (¬ FlOk fl n) := Lib.hid (fun h => by have := h.n1; omega)
    clear hfl h8
    go_enter Try.func16, Try.ntmps16
    go_wp2_with fail
    exact bodyPost_ret (v := .tuple #[.pointer none, .int .i64 2]) (by simp [results, Try.results16, go_sem]) rfl ⟨Below.refl _ _, .inr ⟨HNO.out, rfl⟩⟩
  have d1 : decide ((8 : Int) < (n : Int)) = false := decide_eq_false (by omega)
  have HN8 : Hid (n ≤ 8) := Lib.hid (by omega)
  have HFLB : Hid (∀ k, k < n → -9223372036854775808 ≤ (fl k).w ∧ (fl k).w ≤ 9223372036854775807) := Lib.hid (fun k hk => (hfl.bd k hk).2.1)
  have CL := Lib.hid (fclone_any a n cap b o fl W hfl (by omega))
  clear hfl h8
  go_enter Try.func16, Try.ntmps16
  go_wp2_with fail
  go_at_call 34
  go_fit CL.out
  rintro e W1 ⟨fa, fc, o1, rfl, hr1, hB1, ho1⟩
  obtain ⟨S, hS⟩ : ∃ N, N = W1.heap.size := ⟨_, rfl⟩
  obtain ⟨W2, hW2⟩ : ∃ X, X = W1.alloc (.cells #[.slice fa n fc, .slice none 0 0, .pointer none, .int .i64 0, .int .i64 0, .int .i64 0, .int .i64 0, .int .i64 0, .int .i64 0, .int .i64 0, .int .i64 0, .int .i64 0, .int .i64 0, .int .i64 0, .int .i64 0, .int .i64 0, .int .i64 0, .int .i64 0, .int .i64 0, .int .i64 0, .int .i64 0, .int .i64 0] 64) := ⟨_, rfl⟩
  have hB2 : Below W1.heap.size W1 W2 := by rw [hW2]; exact alloc_b _ _
  have hk2 : Blk W2 S (nwC fa n fc (.slice none 0 0)) 64 := by rw [hW2, hS]; exact blk_new _ _ _
  have HMK := Lib.hid (show MkS W W2 S fl n 0 fa fc o1 (.slice none 0 0) none (.slice none 0 0) none (fun _ => 0) (fun _ => 0) (fun _ _ => nilP) from ⟨hk2, row_otO hr1 (Fr.of_below hB2) (ot_nil _ [51]) (by simp), Row.nil _ _ _, ⟨fun k hk => absurd hk (by omega), fun k hk => rfl, fun k hk => absurd hk (by omega), fun k hk => absurd hk (by omega), fun i k hi => absurd hi (by omega), fun k hk => absurd hk (by omega), fun k hk => absurd hk (by omega)⟩, ino_nil _ _, hB1.trans (hB2.mono hB1.size), ⟨by rw [hS]; exact hB1.size, ho1, fun g e => by cases e⟩, fun j hj => absurd hj (by omega)⟩)
  clear hr1 hB1 ho1 hB2 hk2 CL
  go_upto_region 4 with fail
  rw [← hS, ← hW2]
  clear hS hW2 d1
  go_wp2_with fail
  go_loopw [5, 7, 8, 9, 20] (fun v5 _ _ _ vi wr => ∃ (k : Nat) (vq : Value) (oq o5 : Option Nat) (D R : Nat → Nat) (E : Nat → Nat → PkE), k ≤ n ∧ vi = .int .i64 k ∧ MkS W wr S fl n k fa fc o1 vq oq v5 o5 D R E) (fun _ _ _ _ vi _ => n - (intOf vi).toNat)
  case atStart => exact ⟨0, _, none, none, _, _, _, Nat.zero_le _, rfl, HMK.out⟩
  case round =>
    clear HMK
    obtain ⟨k, vq, oq, o5, D, R, E, hk, rfl, hmk⟩ := hrel
    have HMK := Lib.hid hmk
    obtain ⟨xa, xn, xc, rfl, _, _, _⟩ := hmk.wt.v.sh
    by_cases hlt : k < n
    rotate_left
    · obtain rfl : k = n := by omega
      have HWL : Hid (FlOk fl k ↔ okWt (wL fl k)) := Lib.hid ⟨fun h => h.w, fun h => ⟨by have := h.1; have := h.2.1; rw [wL_len] at *; omega, fun j hj => (hmk.ok j hj).1, fun j hj => (hmk.ok j hj).2, h⟩⟩
      have hv := hmk.wt.v
      by_cases hz : k = 0
      · subst hz
        have NF := Lib.hid (fnew_len (.slice xa xn xc) (wL fl 0) wr hv (.inl (by rw [wL_len]; omega)))
        have HNO : Hid (¬ FlOk fl 0) := Lib.hid (fun h => by have := h.n1; omega)
        have sb := HMK.out.blk
        have sl := sb.lt
        clear hmk hv hlt hk
        go_wp2_with fail
        go_at_call 36
        go_fit NF.out
        rintro e W3 ⟨rfl, hB3⟩
        have hm3 := HMK.out.step hB3
        have s2 : W3.cell? ⟨S, 2, none⟩ = some (.pointer none) := cell_at hm3.blk 2
        have sl3 := hm3.blk.lt
        have sz : ∀ j, W3.frozen? ⟨S, j, none⟩ = false := fun j => free_at hm3.blk j
        obtain ⟨W4, hW4⟩ : ∃ X, X = W3.setCell ⟨S, 2, none⟩ (.pointer none) := ⟨_, rfl⟩
        have HB4 : Hid (Below W.heap.size W W4) := Lib.hid (by rw [hW4]; exact hm3.b.setCell (p := ⟨S, 2, none⟩) hm3.ge.1 _)
        clear hB3 hm3 NF sb sl
        go_upto_region 16 with fail
        rw [← hW4]
        clear hW4 s2 sl3 sz
        go_wp2_with fail
        try rw [Exit.noGoto_ret]
        exact bodyPost_ret (v := .tuple #[.pointer none, .int .i64 2]) (by simp [results, Try.results16, go_sem]) rfl ⟨HB4.out, .inr ⟨HNO.out, rfl⟩⟩
      have NF := Lib.hid (fnew_any (.slice xa xn xc) (wL fl k) wr hv (by rw [wL_len]; omega) (by rw [wL_len]; exact HN8.out))
      have sl := hmk.blk.lt
      have HZ := Lib.hid hz
      clear hmk hv hlt hk hz
      go_wp2_with fail
      go_at_call 36
      go_fit NF.out
      intro e W3 hnew
      rcases hnew with ⟨hwt, g, fo, ft, c1, c2, rfl, hfr, hB3⟩ | ⟨hwt, rfl, hB3⟩
      rotate_left
      · have hm3 := HMK.out.step hB3
        have s2 : W3.cell? ⟨S, 2, none⟩ = some (.pointer none) := cell_at hm3.blk 2
        have sl3 := hm3.blk.lt
        have sz : ∀ j, W3.frozen? ⟨S, j, none⟩ = false := fun j => free_at hm3.blk j
        obtain ⟨W4, hW4⟩ : ∃ X, X = W3.setCell ⟨S, 2, none⟩ (.pointer none) := ⟨_, rfl⟩
        have HB4 : Hid (Below W.heap.size W W4) := Lib.hid (by rw [hW4]; exact hm3.b.setCell (p := ⟨S, 2, none⟩) hm3.ge.1 _)
        have HNO : Hid (¬ FlOk fl k) := Lib.hid (fun h => hwt h.w)
        clear hB3 hm3 NF sl hwt
        go_upto_region 16 with fail
        rw [← hW4]
        clear hW4 s2 sl3 sz
        go_wp2_with fail
        try rw [Exit.noGoto_ret]
        exact bodyPost_ret (v := .tuple #[.pointer none, .int .i64 2]) (by simp [results, Try.results16, go_sem]) rfl ⟨HB4.out, .inr ⟨HNO.out, rfl⟩⟩
      have hm3 := HMK.out.step hB3
      have s2 : W3.cell? ⟨S, 2, none⟩ = some (.pointer none) := cell_at hm3.blk 2
      have sl3 := hm3.blk.lt
      have sz : ∀ j, W3.frozen? ⟨S, j, none⟩ = false := fun j => free_at hm3.blk j
      obtain ⟨W4, hW4⟩ : ∃ X, X = W3.setCell ⟨S, 2, none⟩ (.pointer (some ⟨g, 0, none⟩)) := ⟨_, rfl⟩
      have hf4 : Fr [S] W3 W4 := by rw [hW4]; exact (Fr.refl _ _).setCell _ (.inl (by simp)) _
      have ho4 : ∀ l : List TypeId, 64 ∉ l → OT W3 [S] l := fun l h1 => ot_one hm3.blk h1
      have HEND : Hid (Below W.heap.size W W4 ∧ FlOk fl k ∧ ∃ m, ShAt W4 W.heap.size S fl k 0 m s0S) := Lib.hid (by
        refine ⟨hm3.b.trans (hf4.below hm3.b.size (by simpa using hm3.ge.1)), HWL.out.2 hwt, ?_⟩
        obtain ⟨gq, eq, _⟩ := hm3.qr.cell 0 (by have := HZ.out; omega)
        subst eq
        obtain ⟨gf, ef, _⟩ := hm3.flr.cell 0 (by have := HZ.out; omega)
        subst ef
        obtain ⟨qa, qc, rfl, _, _, hqa⟩ := hm3.qr.shape
        obtain rfl : qa = some ⟨gq, 0, none⟩ := hqa
        have hfa := hm3.flr.own
        subst hfa
        have hfr4 := (hfr.wk HMK.out.b.size).ot hf4 (ho4 _ (by decide))
        have hk4 : Blk W4 S (shC ⟨g, fo, ft, c1, c2, gq, qc, gf, fc, D, R, fun _ => 0, fun _ => 0, E⟩ k s0S) 64 := by rw [hW4]; exact hm3.blk.set 2 _
        refine ⟨⟨g, fo, ft, c1, c2, gq, qc, gf, fc, D, R, fun _ => 0, fun _ => 0, E⟩, ⟨hk4, ⟨row_ot hm3.flr hf4 (ho4 [51] (by decide)) (by simp), row_ot hm3.qr hf4 (ho4 [65] (by decide)) (by simp), hm3.ge.2.1 _ rfl, hm3.ge.2.2 _ rfl⟩, ?_, inv0 HN8.out, hm3.q.fr hf4 (ho4 _ (by decide)), fun t => by simp [s0S], by simp [s0S], by simp [s0S], hm3.ge.1⟩⟩
        rw [wL_len] at hfr4
        exact hfr4)
      clear hfr hB3 hm3 hf4 ho4 NF sl hwt HWL
      go_upto_region 16 with fail
      rw [← hW4]
      clear hW4 s2 sl3 sz
      go_wp2_with fail
      try rw [Exit.noGoto_ret]
      exact bodyPost_ret (v := .tuple #[.pointer (some ⟨S, 0, none⟩), .int .i64 0]) (by simp [results, Try.results16, go_sem]) rfl ⟨HEND.out.1, .inl ⟨HEND.out.2.1, S, HEND.out.2.2.choose, rfl, HEND.out.2.2.choose_spec⟩⟩
    have hxb := HFL.out.below hmk.b
    obtain ⟨e0, _⟩ := hxb.at_ (by omega)
    subst e0
    obtain ⟨f0, f1, f2⟩ := hxb.cell k hlt
    have fb := (hxb.at_ (by omega)).2
    have HLT := Lib.hid hlt
    have b1 : (k < n) = True := eq_true hlt
    have b2 : ((k : Int) < (n : Int)) = True := eq_true (by omega)
    have b0 : ((0 : Int) ≤ (k : Int)) = True := eq_true (by omega)
    have wk : IntKind.i64.wrap ((k : Int) + 1) = (k : Int) + 1 := IntWalk.i64_in _ (by have := HN8.out; omega)
    obtain ⟨N3, hN3⟩ : ∃ N, N = wr.heap.size := ⟨_, rfl⟩
    obtain ⟨W3, hW3⟩ : ∃ X, X = wr.alloc (.cells #[.int .i64 (fl k).t, .int .i64 (fl k).w, .int .i64 (fl k).r] 51) := ⟨_, rfl⟩
    have hB3 : Below wr.heap.size wr W3 := by rw [hW3]; exact alloc_b _ _
    have hp3 : Blk W3 N3 #[.int .i64 (fl k).t, .int .i64 (fl k).w, .int .i64 (fl k).r] 51 := by rw [hW3, hN3]; exact blk_new _ _ _
    have HMK3 := Lib.hid (hmk.step hB3)
    have HP3 := Lib.hid hp3
    have p2 : W3.cell? ⟨N3, 2, none⟩ = some (.int .i64 (fl k).r) := cell_at hp3 2
    have pl := hp3.lt
    clear hmk hxb hlt hB3 hp3 hk HMK
    go_upto_region 8 with fail
    rw [← hN3, ← hW3]
    clear hN3 hW3 f0 f1 f2 fb
    by_cases hroom : 1 ≤ (fl k).r ∧ (fl k).r ≤ 64
    rotate_left
    · have NB := Lib.hid (fnew_bad (fl k).r W3 (by omega))
      have HNO : Hid (¬ FlOk fl n) := Lib.hid (fun h => hroom (h.r k HLT.out))
      clear hroom
      go_wp2_with fail
      go_at_call 35
      go_fit NB.out
      rintro e W4 ⟨rfl, rfl⟩
      clear NB p2 pl
      go_wp2_with fail
      try rw [Exit.noGoto_ret]
      exact bodyPost_ret (v := .tuple #[.pointer none, .int .i64 2]) (by simp [results, Try.results16, go_sem]) rfl ⟨HMK3.out.b, .inr ⟨HNO.out, rfl⟩⟩
    obtain ⟨rm, hrm⟩ : ∃ x : Nat, (fl k).r = (x : Int) := ⟨(fl k).r.toNat, by omega⟩
    have HRM : Hid ((fl k).r = (rm : Int) ∧ 1 ≤ rm ∧ rm ≤ 64) := Lib.hid ⟨hrm, by omega, by omega⟩
    have QN := Lib.hid (qnew_any rm (fun _ => nilP) W3 HRM.out.2.1 HRM.out.2.2)
    rw [hrm] at p2
    clear hroom hrm
    go_wp2_with fail
    go_at_call 35
    go_fit QN.out
    rintro e W4 ⟨rfl, hq4, hB4⟩
    obtain ⟨dq, hdq⟩ : ∃ N, N = W3.heap.size + 1 := ⟨_, rfl⟩
    obtain ⟨rq, hrq⟩ : ∃ N, N = W3.heap.size := ⟨_, rfl⟩
    rw [← hdq, ← hrq] at hq4
    rw [← hdq]
    have hmk4 := HMK3.out.step hB4
    have HQ4 : Hid (ShQ W4 W.heap.size fl (k + 1) 0 (upf D k dq) (upf R k rq) (fun _ => 0) (fun _ => 0) (upf E k (fun _ => nilP)) (fun _ => [])) := Lib.hid (HMK3.out.q.new hB4 (by rw [HRM.out.1, Int.toNat_natCast]; exact hq4) (by omega) HMK3.out.b.size)
    have HMK4 := Lib.hid hmk4
    have HP4 := Lib.hid (HP3.out.step hB4)
    have TN := Lib.hid (ten_any (fl k).t W4)
    have p0 : W4.cell? ⟨N3, 0, none⟩ = some (.int .i64 (fl k).t) := cell_at HP4.out 0
    have p1 : W4.cell? ⟨N3, 1, none⟩ = some (.int .i64 (fl k).w) := cell_at HP4.out 1
    have p4 := HP4.out.lt
    clear hq4 hdq hrq hmk4 hB4 p2 pl QN HP3 HMK3
    by_cases hten : 1 ≤ (fl k).t ∧ (fl k).t ≤ 16
    rotate_left
    · have HNO : Hid (¬ FlOk fl n) := Lib.hid (fun h => hten (h.t k HLT.out))
      rw [decide_eq_false hten] at TN
      clear hten
      go_wp2_with fail
      go_at_call 25
      go_fit TN.out
      rintro e W5 ⟨rfl, rfl⟩
      go_wp2_with fail
      try rw [Exit.noGoto_ret]
      exact bodyPost_ret (v := .tuple #[.pointer none, .int .i64 2]) (by simp [results, Try.results16, go_sem]) rfl ⟨HMK4.out.b, .inr ⟨HNO.out, rfl⟩⟩
    rw [decide_eq_true hten] at TN
    have HTN := Lib.hid hten
    clear hten
    go_wp2_with fail
    go_at_call 25
    go_fit TN.out
    rintro e W5 ⟨rfl, rfl⟩
    obtain ⟨qa, qc, rfl, _, _, hqa⟩ := HMK4.out.qr.shape
    clear hqa TN
    have c1 : W4.cell? ⟨S, 1, none⟩ = some (.slice qa k qc) := cell_at HMK4.out.blk 1
    have cl := HMK4.out.blk.lt
    have hB5 : Below W4.heap.size W4 (W4.alloc (.cells #[.pointer (some ⟨dq, 0, none⟩)] 65)) := alloc_b _ _
    have hmk5 := HMK4.out.step hB5
    obtain ⟨v6, o6, W6, hrun6, hr6, hge6, hf6, hB6⟩ := qp_grow (M := W.heap.size) (D := upf D k dq) (d := dq) (ty := 61) (by rw [qpL_upf]; exact hmk5.qr) hmk5.ge.2.2 (upf_at _ _ _) (blk_new W4 #[.pointer (some ⟨dq, 0, none⟩)] 65) hmk5.b.size (by have := HN8.out; have := HLT.out; omega)
    have HRUN6 := Lib.hid hrun6
    have ho6 : ∀ l : List TypeId, 65 ∉ l → OT _ oq.toList l := fun l h1 => ot_row hmk5.qr h1
    have hk6 : Blk W6 S (nwC fa n fc (.slice qa k qc)) 64 := (blk_ot hmk5.blk hf6 (l := [64]) (ho6 _ (by decide)) (by simp)).trans hmk5.blk
    have hp6 : Blk W6 N3 #[.int .i64 (fl k).t, .int .i64 (fl k).w, .int .i64 (fl k).r] 51 := (blk_ot (HP4.out.step hB5) hf6 (l := [51]) (ho6 _ (by decide)) (by simp)).trans (HP4.out.step hB5)
    have hfl6 := row_otO hmk5.flr hf6 (ho6 [51] (by decide)) (by simp)
    have hq6 := (HQ4.out.fr (Fr.of_below hB5) (ot_nil _ _)).fr hf6 (ho6 _ (by decide))
    have hw6 := hmk5.wt.ot hf6 (ho6 _ (by decide))
    have hbb6 := hmk5.b.trans hB6
    obtain ⟨ra, rc, rfl, _, _, hra⟩ := hr6.shape
    clear hra
    have s1 : W6.cell? ⟨S, 1, none⟩ = some (.slice qa k qc) := cell_at hk6 1
    have sl := hk6.lt
    have sz : ∀ j, W6.frozen? ⟨S, j, none⟩ = false := fun j => free_at hk6 j
    obtain ⟨W7, hW7⟩ : ∃ X, X = W6.setCell ⟨S, 1, none⟩ (.slice ra (k + 1) rc) := ⟨_, rfl⟩
    have hf7 : Fr [S] W6 W7 := by rw [hW7]; exact (Fr.refl _ _).setCell _ (.inl (by simp)) _
    have ho7 : ∀ l : List TypeId, 64 ∉ l → OT W6 [S] l := fun l h1 => ot_one hk6 h1
    have hk7 : Blk W7 S (nwC fa n fc (.slice ra (k + 1) rc)) 64 := by rw [hW7]; exact hk6.set 1 _
    have hp7 : Blk W7 N3 #[.int .i64 (fl k).t, .int .i64 (fl k).w, .int .i64 (fl k).r] 51 := (blk_ot hp6 hf7 (l := [51]) (ho7 _ (by decide)) (by simp)).trans hp6
    have hw7 := hw6.ot hf7 (ho7 _ (by decide))
    have hbb7 := hbb6.trans (hf7.below hbb6.size (by simpa using hmk5.ge.1))
    have hB8 : Below W7.heap.size W7 (W7.alloc (.cells #[.int .i64 (fl k).w] 3)) := alloc_b _ _
    obtain ⟨v9, o9, W9, hrun9, hi9, hg9, hn9, hlo9⟩ := in_grow (M := W.heap.size) (ty := 76) (hw7.step hB8) (blk_new W7 #[.int .i64 (fl k).w] 3) (HFLB.out k HLT.out) (by have := hbb7.size; have := hB8.size; omega) (by rw [wL_len]; have := HN8.out; have := HLT.out; omega)
    have HRUN9 := Lib.hid hrun9
    have hf9 := fr_grown hg9
    have ho9 : ∀ l : List TypeId, 3 ∉ l → OT _ o5.toList l := fun l h1 => ot_row (hw7.step hB8).1 h1
    have hmk9 : MkS W W9 S fl n (k + 1) fa fc o1 (.slice ra (k + 1) rc) (some o6) v9 (some o9) (upf D k dq) (upf R k rq) (upf E k (fun _ => nilP)) :=
      ⟨(blk_ot (hk7.step hB8) hf9 (l := [64]) (ho9 _ (by decide)) (by simp)).trans (hk7.step hB8), row_otO (row_otO (row_otO hfl6 hf7 (ho7 [51] (by decide)) (by simp)) (Fr.of_below hB8) (ot_nil _ [51]) (by simp)) hf9 (ho9 [51] (by decide)) (by simp), row_otO (row_otO (row_otO hr6 hf7 (ho7 [65] (by decide)) (by simp)) (Fr.of_below hB8) (ot_nil _ [65]) (by simp)) hf9 (ho9 [65] (by decide)) (by simp), ((hq6.fr hf7 (ho7 _ (by decide))).fr (Fr.of_below hB8) (ot_nil _ _)).fr hf9 (ho9 _ (by decide)), by rw [wL_succ]; exact hi9, (hbb7.trans (hB8.mono hbb7.size)).trans hlo9, ⟨hmk5.ge.1, hmk5.ge.2.1, fun g e => by obtain rfl := Option.some.inj e; exact hge6⟩, fun j hj => by
        by_cases e : j = k
        · subst e; exact ⟨HTN.out, by have := HRM.out; omega⟩
        · exact hmk5.ok j (by omega)⟩
    obtain ⟨ya, yn, yc, rfl, HYN, _, _⟩ := hmk9.wt.v.sh
    have HMK9 := Lib.hid hmk9
    have q1 : W7.cell? ⟨N3, 1, none⟩ = some (.int .i64 (fl k).w) := cell_at hp7 1
    have ql := hp7.lt
    clear hB5 hmk5 hrun6 hr6 hge6 hf6 hB6 ho6 hk6 hp6 hfl6 hq6 hw6 hbb6 hf7 ho7 hk7 hp7 hw7 hbb7 hB8 hrun9 hi9 hg9 hn9 hlo9 hf9 ho9 hmk9 HP4 HMK4 HQ4
    go_upto_region 12 with (at_builtin; refine Lib.wpList_append_run _ rfl (.tmp 42) (.tmp 44) 61 61 rfl _ _ rfl rfl _ _ HRUN6.out ?_)
    rw [← hW7]
    clear hW7 s1 sl sz c1 cl p0 p1 p4
    go_wp2_with (at_builtin; refine Lib.wpList_append_run _ rfl (.tmp 48) (.tmp 51) 76 76 rfl _ _ rfl rfl _ _ HRUN9.out ?_)
    go_roundw
    case rel => exact ⟨k + 1, _, some o6, some o9, _, _, _, HLT.out, by go_num, HMK9.out⟩
    case measure => (have h8 := HLT.out; first | (simp [intOf]; done) | (simp [intOf]; omega))
end Go.Proofs.Ytoodmocapagapaa
namespace Go.Proofs.Ytoodmocapagapaa
open Go.RowKit
set_option linter.unusedSimpArgs false
set_option linter.unusedVariables false

def wFl : Nat → FlowE := fun _ => ⟨1, 1, 5⟩
def wX : Nat → Nat := bldX ⟨0, 1, 0, 92, fun _ => 0⟩
def wS1 : SS := inS wFl 1 s0S wX 100
def wS2 : SS := inS wFl 1 wS1 wX 100
def wS3 : SS := (pumpS wFl 1 500 wS2).1
def wS4 : SS := fillS wS3 1 150
def wS5 : SS := (pumpS wFl 1 500 wS4).1
theorem w_ok : FlOk wFl 1 := ⟨by omega, fun k hk => by simp [wFl], fun k hk => by simp [wFl], ⟨by simp [wL], by simp [wL], fun k hk => by rw [wL_at wFl (by simpa [wL] using hk)]; simp [wFl]⟩⟩
theorem w_in1 : inN wFl 1 s0S wX 100 = 1 ∧ inE wFl 1 s0S wX 100 = 0 := by decide +kernel
theorem w_p1 : (pumpS wFl 1 500 wS2).2.length = 0 := by decide +kernel
theorem w_p2 : (pumpS wFl 1 500 wS4).2.map (fun x => x.2.sz) = [100] := by decide +kernel
theorem w_tok : tokV wS5 1 = 50 := by decide +kernel
theorem w_wait : waitV wS5 1 0 = 1 := by decide +kernel
theorem w_want : wantF wFl wS5 1 1 = 100 := by decide +kernel
end Go.Proofs.Ytoodmocapagapaa
namespace Go.Proofs.Ytoodmocapagapaa
open Go.RowKit
set_option linter.unusedSimpArgs false
set_option linter.unusedVariables false

theorem row_tyl {W W' : World} {v : Value} {g : Nat} {e : TypeId} {sz n : Nat} {xs : List Value} {l : List TypeId} (h : Row W v (some g) e sz n xs) (ht : TyL l W W') (he : e ∉ l) : Row W' v (some g) e sz n xs := by
  obtain ⟨cs, hb⟩ := blk_row h
  exact h.congr fun q e' => by obtain rfl := Option.some.inj e'; exact (ht _ _ _ hb he).trans hb.symm
theorem bldX_bd (p : PD) (ht : p.t.toNat < 256) (hc : p.c.toNat < 256) (hn : p.n < 65536) (hX : ∀ j, p.X j < 256) (j : Nat) : bldX p j < 256 := by
  unfold bldX
  exact fix_bd (head_bd ht hc hn hX) (by omega) j
theorem mk92 (W : World) : (Instr.makeSlice 42 (.int .i64 92) (.int .i64 92)).run Try.prog W = .ok (.slice (some ⟨W.heap.size, 0, none⟩) 92 92) (W.alloc (.cells (madeCells (Value.int .u8 0).cells 92) 5)) := by
  obtain ⟨i0, hi, hz0, hz1, hz2⟩ := info_parts infoU8'
  have hr := run_makeSlice (P := Try.prog) W 42 5 i0 _ Try.underlying42 hi hz0 .i64 .i64 92 92 (by omega) (Int.le_refl _) (by rw [hz1]; simp) (by rw [hz2]; omega) (by omega)
  rw [hz1] at hr
  exact hr
set_option maxRecDepth 100000 in
set_option maxHeartbeats 40000000 in
theorem shwakes_any (W : World) : Calls Try.prog 14 #[] W fun e w' => e = .returned (.bool true) ∧ Below W.heap.size W w' := by
  have hnil : ∀ W S, (binOp .eql 22 (.pointer (some ⟨S, 0, none⟩)) (.pointer none)).run Try.prog W = .ok (.bool false) W := fun _ _ => rfl
  obtain ⟨N0, hN0⟩ : ∃ N, N = W.heap.size := ⟨_, rfl⟩
  obtain ⟨W0, hW0⟩ : ∃ X, X = W.alloc (.cells #[.int .i64 1, .int .i64 1, .int .i64 5] 51) := ⟨_, rfl⟩
  have hB0 : Below W.heap.size W W0 := by rw [hW0]; exact alloc_b _ _
  have hk0 : Blk W0 N0 #[.int .i64 1, .int .i64 1, .int .i64 5] 51 := by rw [hW0, hN0]; exact blk_new _ _ _
  have NW := Lib.hid (new_any2 (some ⟨N0, 0, none⟩) 1 1 N0 0 wFl W0 ⟨Nat.le_refl _, by unfold maxLen; omega, fun _ => ⟨rfl, hk0.lt⟩, fun k hk => by
    obtain rfl : k = 0 := by omega
    exact ⟨cell_at hk0 0, cell_at hk0 1, cell_at hk0 2⟩, fun k hk => by simp [wFl, FlowE.ok]⟩)
  have HB0 := Lib.hid hB0
  have MK := Lib.hid mk92
  clear hk0 hB0
  go_enter Try.func14, Try.ntmps14
  go_upto_region 1 with fail
  go_wp2_with fail
  rw [← hN0, ← hW0]
  clear hN0 hW0
  go_at_call 16
  go_fit NW.out
  rintro e W1 ⟨hB1, ⟨_, S, m, rfl, hx1⟩ | ⟨hno, _⟩⟩
  rotate_left
  · exact absurd w_ok hno
  obtain ⟨M, hM⟩ : ∃ M, M = W0.heap.size := ⟨_, rfl⟩
  rw [← hM] at hx1
  have HM : Hid (W.heap.size ≤ M) := Lib.hid (by rw [hM]; exact HB0.out.size)
  have HB1 := Lib.hid (HB0.out.trans (hB1.mono HB0.out.size))
  have hmk := MK.out W1
  obtain ⟨NB, hNB⟩ : ∃ N, N = W1.heap.size := ⟨_, rfl⟩
  obtain ⟨W2, hW2⟩ : ∃ X, X = W1.alloc (.cells (madeCells (Value.int .u8 0).cells 92) 5) := ⟨_, rfl⟩
  rw [← hNB, ← hW2] at hmk
  have hB2 : Below W1.heap.size W1 W2 := by rw [hW2]; exact alloc_b _ _
  have hz2 : ByIn W2 (some ⟨NB, 0, none⟩) 92 92 NB 0 (fun _ => 0) := by
    have hk : Blk W2 NB (madeCells (Value.int .u8 0).cells 92) 5 := by rw [hW2, hNB]; exact blk_new _ _ _
    refine ⟨Nat.le_refl _, by unfold maxLen; omega, fun _ => ⟨rfl, hk.lt⟩, fun k hk2 => ?_, fun k => by omega⟩
    rw [cell_at hk]
    simp [madeCells, Value.cells, hk2, Nat.mod_one]
  have BLD := Lib.hid (show Calls Try.prog 33 #[.agg #[.int .i64 0, .int .i64 1, .int .i64 0, .slice (some ⟨NB, 0, none⟩) 92 92]] W2 fun e w' => ∃ v ob, e = .returned (.tuple #[v, .int .i64 0]) ∧ Row w' v (some ob) 5 1 100 (rowV wX 100) ∧ W2.heap.size ≤ ob ∧ Below W2.heap.size W2 w' from build_any 0 1 0 (some ⟨NB, 0, none⟩) 92 92 NB 0 (fun _ => 0) W2 hz2 (by omega) (by omega) (by omega))
  have HX2 := Lib.hid (hx1.step hB2)
  have HB2 := Lib.hid (HB1.out.trans (hB2.mono HB1.out.size))
  clear hB1 hx1 hM hNB hW2 hB2 hz2 HB1 NW
  go_wp2_with fail
  clear hmk
  go_at_call 33
  go_fit BLD.out
  rintro e W3 ⟨v, ob, rfl, hrow, hob, hB3⟩
  obtain ⟨va, vc, rfl, _, _, hva⟩ := hrow.shape
  obtain rfl : va = some ⟨ob, 0, none⟩ := hva
  have HX3 := Lib.hid (HX2.out.step hB3)
  have HR3 := Lib.hid hrow
  have HB3 := Lib.hid (HB2.out.trans (hB3.mono HB2.out.size))
  have HBY : Hid (∀ X : World, Row X (.slice (some ⟨ob, 0, none⟩) 100 vc) (some ob) 5 1 100 (rowV wX 100) → ByIn X (some ⟨ob, 0, none⟩) 100 vc ob 0 wX) := Lib.hid (fun X h => by
    obtain ⟨a', c', e, hb⟩ := row_by h (bldX_bd ⟨0, 1, 0, 92, fun _ => 0⟩ (by decide) (by decide) (by decide) (fun _ => Nat.zero_lt_of_lt (by omega : 0 < 256)))
    injection e with e1 e2 e3
    subst e1 e3
    exact hb)
  have IN1 := Lib.hid (in_any W3 M S wFl 1 0 m s0S HX3.out w_ok (by omega) (some ⟨ob, 0, none⟩) 100 vc ob 0 wX (HBY.out _ hrow))
  rw [w_in1.1, w_in1.2] at IN1
  clear hrow hob hB3 HX2 HB2 BLD MK
  go_wp2_with fail
  go_at_call 6
  go_fit IN1.out
  rintro e W4 ⟨rfl, ⟨m4, hx4⟩, hs4⟩
  have HX4 := Lib.hid (show ShAt W4 M S wFl 1 1 m4 wS1 from hx4)
  have HR4 := Lib.hid (row_tyl HR3.out hs4.t (by decide))
  have HB4 := Lib.hid (HB3.out.trans (hs4.b.mono HM.out))
  have IN2 := Lib.hid (in_any W4 M S wFl 1 1 m4 wS1 HX4.out w_ok (by omega) (some ⟨ob, 0, none⟩) 100 vc ob 0 wX (HBY.out _ HR4.out))
  clear hx4 hs4 HX3 HR3 HB3 IN1
  go_wp2_with fail
  go_at_call 6
  go_fit IN2.out
  rintro e W5 ⟨rfl, ⟨m5, hx5⟩, hs5⟩
  have HX5 := Lib.hid (show ShAt W5 M S wFl 1 2 m5 wS2 from hx5)
  have HB5 := Lib.hid (HB4.out.trans (hs5.b.mono HM.out))
  have PU1 := Lib.hid (pump_any W5 M S wFl 1 2 m5 wS2 HX5.out w_ok 500)
  clear hx5 hs5 HX4 HR4 HB4 IN2 HBY
  go_wp2_with fail
  go_at_call 8
  go_fit PU1.out
  rintro e W6 ⟨v1, v2, o1, o2, m6, rfl, hsn6, hby6, hx6, hs6⟩
  obtain ⟨xa, xc, rfl, _, _, hxa⟩ := hsn6.row.shape
  obtain ⟨ya, yc, rfl, _, _, hya⟩ : ∃ a c, _ := hby6.ex.choose_spec.1.shape
  clear hxa hya hsn6 hby6
  rw [w_p1]
  have HX6 := Lib.hid (show ShAt W6 M S wFl 1 2 m6 wS3 from hx6)
  have HB6 := Lib.hid (HB5.out.trans (hs6.b.mono HM.out))
  have FI := Lib.hid (fill_any W6 M S wFl 1 2 m6 wS3 HX6.out 1 150)
  rw [show fillE 1 150 = 0 by decide] at FI
  clear hx6 hs6 HX5 HB5 PU1
  go_wp2_with fail
  go_at_call 9
  go_fit FI.out
  rintro e W7 ⟨rfl, hx7, hf7⟩
  have HX7 := Lib.hid (show ShAt W7 M S wFl 1 2 m6 wS4 from hx7)
  have HB7 := Lib.hid (HB6.out.trans (hf7.below HB6.out.size (by have := HX6.out.ge; have := HM.out; simp; omega)))
  have PU2 := Lib.hid (pump_any W7 M S wFl 1 2 m6 wS4 HX7.out w_ok 500)
  clear hx7 hf7 HX6 HB6 FI
  go_wp2_with fail
  go_at_call 8
  go_fit PU2.out
  obtain ⟨O, hO⟩ : ∃ O, O = (pumpS wFl 1 500 wS4).2 := ⟨_, rfl⟩
  have hO2 := w_p2
  rw [← hO] at hO2
  rw [← hO]
  rintro e W8 ⟨v1, v2, o1, o2, m8, rfl, hsn8, hby8, hx8, hs8⟩
  obtain ⟨x, rfl⟩ : ∃ x, O = [x] := by
    cases O with
    | nil => simp at hO2
    | cons x O => cases O with
      | nil => exact ⟨x, rfl⟩
      | cons y O => simp at hO2
  have hsz : x.2.sz = 100 := by simpa using hO2
  obtain ⟨za, zc, rfl, _, _, hza⟩ := hsn8.row.shape
  obtain ⟨ua, uc, rfl, _, _, hua⟩ : ∃ a c, _ := hby8.ex.choose_spec.1.shape
  obtain ⟨gs, es, hs4, _⟩ := hsn8.row.cell 4 (by simp)
  subst es
  obtain rfl : za = some ⟨gs, 0, none⟩ := hza
  rw [snL_at [x] 0 4 x rfl (by omega)] at hs4
  have c4 : W8.cell? ⟨gs, 4, none⟩ = some (.int .i64 100) := by rw [hs4]; unfold sentV; rw [← hsz]; rfl
  have gl := hsn8.row.lt
  have HX8 := Lib.hid (show ShAt W8 M S wFl 1 2 m8 wS5 from hx8)
  have HB8 := Lib.hid (HB7.out.trans (hs8.b.mono HM.out))
  have TK := Lib.hid (tokens_any W8 M S wFl 1 2 m8 wS5 HX8.out 1)
  have WT := Lib.hid (waiting_any W8 M S wFl 1 2 m8 wS5 HX8.out 0)
  have WN := Lib.hid (wants_any W8 M S wFl 1 2 m8 wS5 HX8.out (by omega) 1)
  rw [w_tok] at TK
  rw [w_wait] at WT
  rw [w_want] at WN
  clear hua hO hO2 hsn8 hby8 hx8 hs8 hs4 hsz HX7 HB7 PU2
  simp only [List.length_singleton]
  go_wp2_with fail
  go_fit TK.out
  rintro e W9 ⟨rfl, rfl⟩
  go_wp2_with fail
  go_fit WT.out
  rintro e W9 ⟨rfl, rfl⟩
  go_wp2_with fail
  go_fit WN.out
  rintro e W9 ⟨rfl, hB9⟩
  have HB9 := Lib.hid (HB8.out.trans (hB9.mono HB8.out.size))
  clear hB9
  go_wp2_with fail
  go_ret
  exact ⟨rfl, HB9.out⟩
end Go.Proofs.Ytoodmocapagapaa
namespace Go.Proofs.Ytoodmocapagapaa
open Go.RowKit
set_option linter.unusedSimpArgs false
set_option linter.unusedVariables false

set_option maxRecDepth 100000 in
set_option maxHeartbeats 8000000 in
theorem nin_any (W : World) : Calls Try.prog 6 #[.pointer none, .slice none 0 0] W fun e w' => e = .returned (.tuple #[.int .i64 0, .int .i64 1]) ∧ W = w' := by
  have hnil : ∀ W, (binOp .eql 22 (.pointer none) (.pointer none)).run Try.prog W = .ok (.bool true) W := fun _ => rfl
  go_enter Try.func6, Try.ntmps6
  go_wp2_with fail
  go_ret2
  exact ⟨rfl, rfl⟩
set_option maxRecDepth 100000 in
set_option maxHeartbeats 8000000 in
theorem ndrop_any (t : Int) (W : World) : Calls Try.prog 7 #[.pointer none, .int .i64 t] W fun e w' => e = .returned (.tuple #[.int .i64 0, .int .i64 1]) ∧ W = w' := by
  have hnil : ∀ W, (binOp .eql 22 (.pointer none) (.pointer none)).run Try.prog W = .ok (.bool true) W := fun _ => rfl
  go_enter Try.func7, Try.ntmps7
  go_wp2_with fail
  go_ret2
  exact ⟨rfl, rfl⟩
set_option maxRecDepth 100000 in
set_option maxHeartbeats 8000000 in
theorem nfill_any (t b : Int) (W : World) : Calls Try.prog 9 #[.pointer none, .int .i64 t, .int .i64 b] W fun e w' => e = .returned (.int .i64 1) ∧ W = w' := by
  have hnil : ∀ W, (binOp .eql 22 (.pointer none) (.pointer none)).run Try.prog W = .ok (.bool true) W := fun _ => rfl
  go_enter Try.func9, Try.ntmps9
  go_wp2_with fail
  go_ret
  exact ⟨rfl, rfl⟩
set_option maxRecDepth 100000 in
set_option maxHeartbeats 8000000 in
theorem ntok_any (t : Int) (W : World) : Calls Try.prog 10 #[.pointer none, .int .i64 t] W fun e w' => e = .returned (.int .i64 0) ∧ W = w' := by
  have hnil : ∀ W, (binOp .eql 22 (.pointer none) (.pointer none)).run Try.prog W = .ok (.bool true) W := fun _ => rfl
  go_enter Try.func10, Try.ntmps10
  go_wp2_with fail
  go_ret
  exact ⟨rfl, rfl⟩
set_option maxRecDepth 100000 in
set_option maxHeartbeats 8000000 in
theorem nwait_any (t : Int) (W : World) : Calls Try.prog 11 #[.pointer none, .int .i64 t] W fun e w' => e = .returned (.int .i64 0) ∧ W = w' := by
  have hnil : ∀ W, (binOp .eql 22 (.pointer none) (.pointer none)).run Try.prog W = .ok (.bool true) W := fun _ => rfl
  go_enter Try.func11, Try.ntmps11
  go_wp2_with fail
  go_ret
  exact ⟨rfl, rfl⟩
set_option maxRecDepth 100000 in
set_option maxHeartbeats 8000000 in
theorem nwant_any (t : Int) (W : World) : Calls Try.prog 12 #[.pointer none, .int .i64 t] W fun e w' => e = .returned (.int .i64 0) ∧ W = w' := by
  have hnil : ∀ W, (binOp .neq 22 (.pointer none) (.pointer none)).run Try.prog W = .ok (.bool false) W := fun _ => rfl
  go_enter Try.func12, Try.ntmps12
  go_wp2_with fail
  go_ret
  exact ⟨rfl, rfl⟩
set_option maxRecDepth 100000 in
set_option maxHeartbeats 8000000 in
theorem nbud_any (W : World) : Calls Try.prog 13 #[.pointer none] W fun e w' => e = .returned (.int .i64 0) ∧ W = w' := by
  have hnil : ∀ W, (binOp .eql 22 (.pointer none) (.pointer none)).run Try.prog W = .ok (.bool true) W := fun _ => rfl
  go_enter Try.func13, Try.ntmps13
  go_wp2_with fail
  go_ret
  exact ⟨rfl, rfl⟩
set_option maxRecDepth 100000 in
set_option maxHeartbeats 8000000 in
theorem npump_any (b : Int) (W : World) : Calls Try.prog 8 #[.pointer none, .int .i64 b] W fun e w' => e = .returned (.tuple #[.slice none 0 0, .slice none 0 0]) ∧ Below W.heap.size W w' := by
  have hnil : ∀ W, (binOp .eql 22 (.pointer none) (.pointer none)).run Try.prog W = .ok (.bool true) W := fun _ => rfl
  obtain ⟨B0, hB0⟩ : ∃ N, N = W.heap.size := ⟨_, rfl⟩
  obtain ⟨W0, hW0⟩ : ∃ X, X = W.alloc (.cells #[.pointer none] 22) := ⟨_, rfl⟩
  have hBe : Below W.heap.size W W0 := by rw [hW0]; exact alloc_b _ _
  have hk0 : Blk W0 B0 #[.pointer none] 22 := by rw [hW0, hB0]; exact blk_new _ _ _
  have cB : W0.cell? ⟨B0, 0, none⟩ = some (.pointer none) := cell_at hk0 0
  have cBl := hk0.lt
  have HBE := Lib.hid hBe
  clear hBe hk0
  go_enter Try.func8, Try.ntmps8
  go_upto_region 1 with fail
  rw [← hB0, ← hW0]
  clear hB0 hW0
  go_step3
  go_wp2_with fail
  try rw [Exit.noGoto_ret]
  go_ret2
  exact ⟨rfl, HBE.out⟩
set_option maxRecDepth 100000 in
set_option maxHeartbeats 40000000 in
theorem shapernil_any (n : Int) (W : World) : Calls Try.prog 3 #[.int .i64 n] W fun e w' => e = .returned (.bool true) ∧ Below W.heap.size W w' := by
  have W1 := Lib.hid nin_any
  have W2 := Lib.hid ndrop_any
  have W3 := Lib.hid npump_any
  have W4 := Lib.hid nfill_any
  have W5 := Lib.hid ntok_any
  have W6 := Lib.hid nwait_any
  have W7 := Lib.hid nwant_any
  have W8 := Lib.hid nbud_any
  have W9 := Lib.hid shwakes_any
  go_enter Try.func3, Try.ntmps3
  go_wp2_with fail
  go_at_call 6
  go_fit (W1.out W)
  rintro e X1 ⟨rfl, rfl⟩
  go_wp2_with fail
  go_at_call 7
  go_fit (W2.out n W)
  rintro e X2 ⟨rfl, rfl⟩
  go_wp2_with fail
  go_at_call 8
  go_fit (W3.out n W)
  rintro e X3 ⟨rfl, hB3⟩
  have HB3 := Lib.hid hB3
  clear hB3
  go_wp2_with fail
  go_fit (W4.out n n X3)
  rintro e X4 ⟨rfl, rfl⟩
  go_wp2_with fail
  go_fit (W5.out n X3)
  rintro e X4 ⟨rfl, rfl⟩
  go_wp2_with fail
  go_fit (W6.out n X3)
  rintro e X4 ⟨rfl, rfl⟩
  go_wp2_with fail
  go_fit (W7.out n X3)
  rintro e X4 ⟨rfl, rfl⟩
  go_wp2_with fail
  go_fit (W8.out X3)
  rintro e X4 ⟨rfl, rfl⟩
  go_wp2_with fail
  go_fit (W9.out X3)
  rintro e X4 ⟨rfl, hB4⟩
  have HB4 := Lib.hid (HB3.out.trans (hB4.mono HB3.out.size))
  clear hB4
  go_wp2_with fail
  go_ret
  exact ⟨rfl, HB4.out⟩
end Go.Proofs.Ytoodmocapagapaa
