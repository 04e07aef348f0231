/-
  What a leader's desk tells: the law, its parts.
-/
import Derived.Test.YthmjlomlceljkaaGp9
import Derived.Test.YthmjlomlceljkaaGr5
import Derived.Deep.DeepFit
namespace Go.Proofs.Ythmjlomlceljkaa
open Go.RowKit
set_option linter.unusedSimpArgs false
set_option linter.unusedVariables false

theorem ov_tk (B : Int → Bool) (F : Nat → LeE) : ∀ n, ovL B F n = tkL B F n
  | 0 => rfl
  | n + 1 => by unfold ovL tkL; rw [ov_tk B F n]
theorem rel_fit {M : Int → Option Int} {Ls Ts : List Int} (h : Rel M Ls Ts) (el now : Int) (he : 0 ≤ el ∧ el ≤ 9223372036854775807) (hn : 0 ≤ now ∧ now ≤ 9223372036854775807) (ht : okI Ts) : fitD el now M := by
  intro id
  rw [h.lk id, lk_fnd id Ls Ts h.len]
  split
  · simp; omega
  · next hc =>
    rcases fnd_lt id Ls 0 with e | ⟨e1, e2⟩
    · rw [e] at hc; simp at hc
    have hl : (fnd id 0 Ls).toNat < Ts.length := by have := h.len; omega
    have hm := List.mem_of_getElem? (gI_lt hl)
    have := h.ge _ hm
    have := ht _ hm
    simp
    omega


theorem RDk.frS {M : Nat} {W W' : World} {g b gr : Nat} {tk rho el now : Int} {vl vt : Value} {ol ot : Option Nat} {Ls Ts : List Int} (h : RDk M W gr tk rho el now vl vt ol ot Ls Ts) (hf : Fr [g, b] W W') (hg : g < M) (hb : b < M) : RDk M W' gr tk rho el now vl vt ol ot Ls Ts :=
  ⟨(hf.block gr h.blk.lt (by have := h.ge; simp; omega)).trans h.blk,
   ⟨h.ls.1.congr fun q e => hf.block q (h.ls.lt q e) (by have := h.ls.2.2 q e; simp; omega), h.ls.2⟩,
   ⟨h.ts.1.congr fun q e => hf.block q (h.ts.lt q e) (by have := h.ts.2.2 q e; simp; omega), h.ts.2⟩, h.ge, h.sep⟩
theorem DkS.stepM {M : Nat} {W W' : World} {g b : Nat} {el now la : Int} {Mf : Int → Option Int} (h : DkS W g b el now la Mf) (hB : Below M W W') (hg : g < M) (hb : b < M) : DkS W' g b el now la Mf := ⟨h.blk.stepM hB hg, h.map.congr (hB.block b hb), h.ne⟩
theorem Blk.frS {W W' : World} {q : Nat} {l : List Nat} {cs : Array Value} {ty : TypeId} (h : Blk W q cs ty) (hf : Fr l W W') (hn : q ∉ l) : Blk W' q cs ty := (hf.block q h.lt hn).trans h
/-- both desks in memory, knowing the same -/
structure GB (W : World) (M g b gr : Nat) (tk rho el now : Int) (n : Nat) : Prop where
  ex : ∃ (Mf : Int → Option Int) (vl vt : Value) (ol ot : Option Nat) (Ls Ts : List Int), DkS W g b el now (overS tk rho) Mf ∧ RDk M W gr tk rho el now vl vt ol ot Ls Ts ∧ Rel Mf Ls Ts ∧ Ls.length ≤ n
  now : 0 ≤ now ∧ now ≤ 9223372036854775807
  gb : g < M ∧ b < M
theorem GB.below {W W' : World} {M g b gr : Nat} {tk rho el now : Int} {n : Nat} (h : GB W M g b gr tk rho el now n) (hB : Below W.heap.size W W') : GB W' M g b gr tk rho el now n := by
  obtain ⟨⟨Mf, vl, vt, ol, ot, Ls, Ts, h1, h2, h3, h4⟩, h5, h6⟩ := h
  exact ⟨⟨Mf, vl, vt, ol, ot, Ls, Ts, h1.below hB, h2.step hB, h3, h4⟩, h5, h6⟩
theorem GB.mono {W : World} {M g b gr : Nat} {tk rho el now : Int} {n m : Nat} (h : GB W M g b gr tk rho el now n) (hm : n ≤ m) : GB W M g b gr tk rho el now m := by
  obtain ⟨⟨Mf, vl, vt, ol, ot, Ls, Ts, h1, h2, h3, h4⟩, h5, h6⟩ := h
  exact ⟨⟨Mf, vl, vt, ol, ot, Ls, Ts, h1, h2, h3, by omega⟩, h5, h6⟩
theorem GB.size {W : World} {M g b gr : Nat} {tk rho el now : Int} {n : Nat} (h : GB W M g b gr tk rho el now n) : M ≤ W.heap.size := by
  obtain ⟨⟨Mf, vl, vt, ol, ot, Ls, Ts, h1, h2, h3, h4⟩, h5, h6⟩ := h
  have := h2.blk.lt
  have := h2.ge
  omega
theorem madeM_no (el lease t now : Int) (Ls Ts : List Int) (h : lease < 1 ∨ t < el) : mdE el lease t = 2 ∧ mdN el now lease t = now ∧ mdL el lease t Ls = Ls ∧ mdT el lease t Ls Ts = Ts := by unfold mdE mdN mdL mdT; simp [h]
theorem madeM_ok (el lease t now : Int) (h : ¬ (lease < 1 ∨ t < el)) : mdE el lease t = 0 ∧ mdN el now lease t = max now t := by unfold mdE mdN; simp [h]
theorem mdL_len (el lease t : Int) (Ls : List Int) : (mdL el lease t Ls).length ≤ Ls.length + 1 := by
  unfold mdL
  split
  · omega
  · split
    · simp
    · omega
/-- the program's Made, whatever it is asked; and what it says of the document's -/
theorem gb_made (lease t : Int) (hl : -9223372036854775808 ≤ lease ∧ lease ≤ 9223372036854775807) (ht : -9223372036854775808 ≤ t ∧ t ≤ 9223372036854775807) (M g b gr : Nat) (tk rho el now : Int) (n : Nat) (hn : n ≤ 1000) (he : 0 ≤ el) (w : World) (h : GB w M g b gr tk rho el now n) :
    Calls Try.prog 12 #[.pointer (some ⟨g, 0, none⟩), .int .i64 lease, .int .i64 t] w fun e w' => e = .returned (.int .i64 (mdE el lease t)) ∧ Fr [g, b] w w' ∧
      ∀ W, Below w'.heap.size w' W → Calls Try.prog 15 #[.pointer (some ⟨gr, 0, none⟩), .int .i64 lease, .int .i64 t] W fun e' W' => e' = .returned (.int .i64 (mdE el lease t)) ∧ BT M W W' ∧ ∃ now', GB W' M g b gr tk rho el now' (n + 1) := by
  obtain ⟨⟨Mf, vl, vt, ol, ot, Ls, Ts, h1, h2, h3, h4⟩, h5, h6⟩ := h
  by_cases hc : lease < 1 ∨ t < el
  · obtain ⟨c1, c2, c3, c4⟩ := madeM_no el lease t now Ls Ts hc
    rw [c1]
    refine (smade_no lease t g b el now _ Mf w h1 hc).mono ?_
    rintro e w' ⟨rfl, rfl⟩
    refine ⟨rfl, Fr.refl _ _, fun W hB => ?_⟩
    refine (rmade_any lease t M gr tk rho el now vl vt ol ot Ls Ts W (h2.step hB) hl ht (by omega) (by have := h3.len; omega)).mono ?_
    rintro e w' ⟨rfl, hT, vl', vt', ol', ot', hR⟩
    rw [c2, c3, c4] at hR
    exact ⟨by rw [c1], hT, now, ⟨⟨Mf, vl', vt', ol', ot', Ls, Ts, (h1.below hB).stepM hT.b h6.1 h6.2, hR, h3, by omega⟩, h5, h6⟩⟩
  · obtain ⟨c1, c2⟩ := madeM_ok el lease t now hc
    rw [c1]
    refine (smade_ok lease t g b el now _ Mf w h1 (by omega) (by omega)).mono ?_
    rintro e w' ⟨rfl, hd, hf⟩
    refine ⟨rfl, hf, fun W hB => ?_⟩
    refine (rmade_any lease t M gr tk rho el now vl vt ol ot Ls Ts W ((h2.frS hf h6.1 h6.2).step hB) hl ht (by omega) (by have := h3.len; omega)).mono ?_
    rintro e w' ⟨rfl, hT, vl', vt', ol', ot', hR⟩
    rw [c2] at hR
    exact ⟨by rw [c1], hT, max now t, ⟨⟨_, vl', vt', ol', ot', _, _, (hd.below hB).stepM hT.b h6.1 h6.2, hR, rel_made h3 el lease t he (by omega) (by omega), by have := mdL_len el lease t Ls; omega⟩, by omega, h6⟩⟩
theorem gnL_le : ∀ (Xs : List Int) (p : List Int × List Int) {n : Nat}, p.1.length ≤ n → (gnL Xs p).1.length ≤ n
  | [], p, n, h => h
  | x :: Xs, p, n, h => gnL_le Xs (gnS x p) (gns_le h)
theorem gb_gone (w0 : World) (va : Value) (Xs : List Int) (hv : InV w0 va Xs) (M g b gr : Nat) (tk rho el now : Int) (n : Nat) (hn : n ≤ 1000) (hM : w0.heap.size ≤ M) (w : World) (hw : Below w0.heap.size w0 w) (hg0 : w0.heap.size ≤ g ∧ w0.heap.size ≤ b) (h : GB w M g b gr tk rho el now n) :
    Calls Try.prog 13 #[.pointer (some ⟨g, 0, none⟩), va] w fun e w' => e = .returned (.int .i64 0) ∧ Fr [b] w w' ∧
      ∀ W, Below w'.heap.size w' W → Calls Try.prog 16 #[.pointer (some ⟨gr, 0, none⟩), va] W fun e' W' => e' = .returned (.int .i64 0) ∧ BT M W W' ∧ GB W' M g b gr tk rho el now n := by
  obtain ⟨⟨Mf, vl, vt, ol, ot, Ls, Ts, h1, h2, h3, h4⟩, h5, h6⟩ := h
  refine (sgone_ok w0 va Xs hv g b el now _ Mf w hw h1).mono ?_
  rintro e w' ⟨rfl, hd, hf⟩
  refine ⟨rfl, hf, fun W hB => ?_⟩
  have hR := (h2.frS (hf.mono (l' := [g, b]) (by simp)) h6.1 h6.2).step hB
  have hMW : M ≤ W.heap.size := by have := hR.blk.lt; have := hR.ge; omega
  have hwW : Below w0.heap.size w0 W := by
    have k1 := hw.trans (hf.below hw.size (by simp; exact hg0.2))
    exact k1.trans (hB.mono k1.size)
  have hv2 : InV (cutW W M) va Xs := hv.below (Below.cutW hwW hM hMW hM)
  have hz := cutW_size hMW
  have hc := cutW_below hMW
  have C := rgone_any (cutW W M) va Xs hv2 gr tk rho el now vl vt ol ot Ls Ts W (by rw [hz]; exact hc) (by rw [hz]; exact hR) (by omega) h3.len
  rw [hz] at C
  refine C.mono ?_
  rintro e w2 ⟨rfl, hT, vl', vt', ol', ot', hR2⟩
  exact ⟨rfl, hT, ⟨⟨_, vl', vt', ol', ot', _, _, (hd.below hB).stepM hT.b h6.1 h6.2, hR2, rel_gone Xs (p := (Ls, Ts)) h3, gnL_le Xs _ h4⟩, h5, h6⟩⟩
theorem gb_over (t s0 s1 s2 : Int) (ht : -9223372036854775808 ≤ t ∧ t ≤ 9223372036854775807) (a : Option Addr) (m cap bl o : Nat) (F : Nat → LeE) (M g b gr : Nat) (tk rho el now : Int) (n : Nat) (he : 0 ≤ el ∧ el ≤ 9223372036854775807) (hm : m ≤ 4096) (w : World) (hs : LeIn w a m cap bl o F) (hbl : bl ≠ g ∧ bl ≠ gr) (h : GB w M g b gr tk rho el now n) :
    Calls Try.prog 14 #[.pointer (some ⟨g, 0, none⟩), .agg #[.int .i64 s0, .int .i64 s1, .int .i64 s2, .slice none 0 0, .slice a m cap, .slice none 0 0, .slice none 0 0], .int .i64 t] w fun e w' => ∃ v, e = .returned v ∧ Fr [g] w w' ∧
      ∀ W, Below w'.heap.size w' W → Calls Try.prog 18 #[.pointer (some ⟨gr, 0, none⟩), .agg #[.int .i64 s0, .int .i64 s1, .int .i64 s2, .slice none 0 0, .slice a m cap, .slice none 0 0, .slice none 0 0], .int .i64 t] W fun e' W' => ∃ v' L, e' = .returned v' ∧ Fr [gr] W W' ∧ InV W' v L ∧ InV W' v' L ∧ ∃ now', GB W' M g b gr tk rho el now' n := by
  obtain ⟨⟨Mf, vl, vt, ol, ot, Ls, Ts, h1, h2, h3, h4⟩, h5, h6⟩ := h
  have hgr := h2.ge
  have hgl := h2.blk.lt
  refine (gover_any t s0 s1 s2 a m cap bl o F g b el now _ Mf w hs hm hbl.1 h1.o (rel_fit h3 el _ he (by omega) h2.ts.2.1)).mono ?_
  rintro e w' ⟨v, rfl, ⟨ob, hrow, hob⟩, hd, hf⟩
  refine ⟨v, rfl, hf, fun W hB => ?_⟩
  have hs' : LeIn w' a m cap bl o F := ⟨hs.le, hs.max, fun hk => ⟨(hs.at_ hk).1, by have := (hs.at_ hk).2; have := hf.size; omega⟩, fun k hk => by
    have hc := hs.cell k hk
    have hb := (hs.at_ (by omega)).2
    have hcc : ∀ j, w'.cell? ⟨bl, j, none⟩ = w.cell? ⟨bl, j, none⟩ := fun j => by unfold World.cell?; rw [hf.block bl hb (by simpa using hbl.1)]
    simpa only [hcc] using hc, hs.bd⟩
  refine (rover2_any t s0 s1 s2 M gr tk rho el now vl vt ol ot Ls Ts a m cap bl o F W (hs'.below hB) hm hbl.2 ((h2.frS (hf.mono (l' := [g, b]) (by simp)) h6.1 h6.2).step hB) h3.len he.1 h5.1 ht.2 h5.2 he.2 h3.ge).mono ?_
  rintro e w2 ⟨v', ob', rfl, hI, hR, hf2, hB2⟩
  have hrow2 : Row w2 v ob 3 1 (ovL (overB el (max now t) (overS tk rho) Mf) F m).length (valsI (sortedI (ovL (overB el (max now t) (overS tk rho) Mf) F m))) := (hrow.congr fun q e => by subst e; exact hB.block q hrow.lt).congr fun q e => by
    have hq := hob q e
    subst e
    exact hf2.block q (by have := hrow.lt; have := hB.size; omega) (by simp; omega)
  rw [rel_over h3, ov_tk] at hrow2
  refine ⟨v', _, rfl, hf2, ?_, inv_row hI.1 hI.2.1, max now t, ⟨⟨Mf, vl, vt, ol, ot, Ls, Ts, ((h1.of hd hf).below hB).stepM hB2 h6.1 h6.2, hR, h3, h4⟩, by omega, h6⟩⟩
  have hlen : (srt (tkL (rOvB el (max now t) (overS tk rho) Ls Ts) F m)).length = (tkL (rOvB el (max now t) (overS tk rho) Ls Ts) F m).length := srt_len _
  rw [← hlen] at hrow2
  exact inv_row hrow2 hI.2.1
set_option maxRecDepth 100000 in
set_option maxHeartbeats 1000000 in
theorem sover_nil (s0 s1 s2 t : Int) (v1 v2 v3 v4 : Value) (w : World) :
    Calls Try.prog 14 #[.pointer none, .agg #[.int .i64 s0, .int .i64 s1, .int .i64 s2, v1, v2, v3, v4], .int .i64 t] w fun e w' => e = .returned (.slice none 0 0) ∧ Below w.heap.size w w' := by
  go_enter Try.func14, Try.ntmps14
  go_wp2_with fail
  try rw [Exit.noGoto_ret]
  go_ret
  exact ⟨rfl, ((Below.refl _ _).alloc (Nat.le_refl _) _).alloc (by simp) _⟩
end Go.Proofs.Ythmjlomlceljkaa
