/-
  Tables as bytes.
-/
import Derived.Test.YthmjlomlceljkaaHi3
import Derived.Deep.DeepFit
import Derived.Lib.AppendZeros
import Derived.Deep.RegionLaw
import Derived.Deep.RegionWith
import Derived.Lib.EndianBits
import Derived.Deep.MidRow
namespace Go.Proofs.Ythmjlomlceljkaa
open Go.RowKit
set_option linter.unusedSimpArgs false
set_option linter.unusedVariables false

theorem infoU8' : (Try.prog.info? 5).map (fun i => (i.zero, i.size, i.bytes)) = some (some (.int .u8 0), 1, 1) := by kernel_rfl
/-- a row of bytes of the call's own -/
def u8L (L : List UInt8) : List Value := L.map fun x => .int .u8 (x.toNat : Int)
theorem u8L_len (L : List UInt8) : (u8L L).length = L.length * 1 := by simp [u8L]
theorem u8L_append (a b : List UInt8) : u8L (a ++ b) = u8L a ++ u8L b := by simp [u8L]
theorem u8L_one (L : List UInt8) : ∀ u ∈ u8L L, u.oneCell' = true := by
  intro u hu
  simp only [u8L, List.mem_map] at hu
  obtain ⟨x, _, rfl⟩ := hu
  rfl
def ByO (M : Nat) (W : World) (v : Value) (ob : Option Nat) (L : List UInt8) : Prop := Row W v ob 5 1 L.length (u8L L) ∧ ∀ g, ob = some g → M ≤ g
theorem byo_nil (W : World) (M : Nat) : ByO M W (.slice none 0 0) none [] := ⟨Row.nil _ _ _, fun g e => by cases e⟩
theorem ByO.step {A B : World} {M : Nat} {v : Value} {ob : Option Nat} {L : List UInt8} (h : ByO M A v ob L) (hB : Below A.heap.size A B) : ByO M B v ob L := ⟨h.1.congr fun g e => hB.block g (by subst e; exact h.1.lt), h.2⟩
theorem by_push {W : World} {M b : Nat} {ty : TypeId} {v : Value} {ob : Option Nat} {L : List UInt8} {x : UInt8} (h : ByO M W v ob L) (hb : Blk W b #[.int .u8 (x.toNat : Int)] 5) (hM : M ≤ W.heap.size) (hn : L.length ≤ 10000) :
    ∃ v' ob' w', (Builtin.append_ #[124, 124] ty #[v, .slice (some ⟨b, 0, none⟩) 1 1]).run Try.prog W = .ok v' w' ∧ ByO M w' v' ob' (L ++ [x]) ∧ Below M W w' := by
  obtain ⟨r1, r5⟩ := h
  obtain ⟨i0, hi, hz0, hz1, hz2⟩ := info_parts infoU8'
  obtain ⟨v', ob', w', hrun, s1, s2, s3⟩ := run_append_row (P := Try.prog) W 124 ty 5 i0 _ 1 1 Try.underlying124 hi hz0 hz1 hz2 rfl (by decide) v ob L.length (u8L L) r1 ⟨b, 0, none⟩ 1 1 (u8L [x]) (by decide) rfl (fun j u hu => by
    rw [addr_add, cell_at hb]
    have hj : j < 1 := (List.getElem?_eq_some_iff.1 hu).1
    obtain rfl : j = 0 := by omega
    simpa [u8L] using hu) (u8L_one _) (by unfold maxLen; omega) (by omega)
  refine ⟨v', some ob', w', hrun, ⟨by rw [List.length_append, u8L_append]; exact s1, fun g e => ?_⟩, ?_⟩
  · obtain rfl := Option.some.inj e
    rcases s3 with h | h
    · exact r5 _ h
    · omega
  · exact (Below.refl M W).grown s2 hM r5
theorem ByO.string {M : Nat} {W : World} {v : Value} {ob : Option Nat} {L : List UInt8} (h : ByO M W v ob L) : (convert 124 9 v).run Try.prog W = .ok (.string ⟨L.toArray⟩) W := by
  rcases h.1.cases with ⟨rfl, rfl, h3, h4⟩ | ⟨g, cap, cur, rfl, rfl, h3, h4, h5, h6, h7⟩
  · obtain rfl : L = [] := List.eq_nil_of_length_eq_zero h3
    rw [run_convert_bytes_string W 124 9 5 none _ 0 Try.underlying124 Try.underlying5 Try.underlying9]
    rfl
  · exact run_convert_bytes_back (P := Try.prog) W 124 9 5 ⟨g, 0, none⟩ cap L Try.underlying124 Try.underlying5 Try.underlying9 fun j hj => by
      rw [addr_add, Nat.zero_add]
      obtain ⟨g', e, hc, _⟩ := h.1.cell j (by omega)
      obtain rfl := Option.some.inj e
      rw [hc]
      simp [u8L, hj]
/-- a row of a table, as a number and as bytes -/
def numF (f : FcE) : Nat := f.tenant.toNat * 1099511627776 + f.rate.toNat * 1048576 + f.burst.toNat
def byt (N s : Nat) : UInt8 := UInt8.ofNat (N / s % 256)
def enc6 (N : Nat) : List UInt8 := [byt N 1099511627776, byt N 4294967296, byt N 16777216, byt N 65536, byt N 256, byt N 1]
def encB (L : List FcE) : List UInt8 := L.flatMap fun f => enc6 (numF f)
theorem encB_take {L : List FcE} {k : Nat} {x : FcE} (h : L[k]? = some x) : encB (L.take (k + 1)) = encB (L.take k) ++ enc6 (numF x) := by
  unfold encB
  rw [List.take_add_one, h, List.flatMap_append]
  simp
theorem enc6_len (N : Nat) : (enc6 N).length = 6 := rfl
theorem encB_len : ∀ L : List FcE, (encB L).length = L.length * 6
  | [] => rfl
  | f :: l => by
    show (enc6 (numF f) ++ encB l).length = _
    rw [List.length_append, encB_len l, enc6_len, List.length_cons]
    omega
theorem byt_inj {a b s : Nat} (h : byt a s = byt b s) : a / s % 256 = b / s % 256 := by
  have := congrArg UInt8.toNat h
  simp only [byt, UInt8.toNat_ofNat'] at this
  omega
theorem enc_inj : ∀ {A B : List FcE} {m m' : Int}, tblB m A = true → tblB m' B = true → encB A = encB B → A = B
  | [], [], _, _, _, _, _ => rfl
  | [], y :: B, _, _, _, _, h => by have := congrArg List.length h; rw [encB_len, encB_len] at this; simp at this
  | x :: A, [], _, _, _, _, h => by have := congrArg List.length h; rw [encB_len, encB_len] at this; simp at this
  | x :: A, y :: B, m, m', hA, hB, h => by
    have h' : enc6 (numF x) ++ encB A = enc6 (numF y) ++ encB B := h
    obtain ⟨h1, h2⟩ := List.append_inj h' (by rw [enc6_len, enc6_len])
    have hx := (tblB_mem hA x List.mem_cons_self).2
    have hy := (tblB_mem hB y List.mem_cons_self).2
    rw [tblB_cons, Bool.and_eq_true] at hA hB
    rw [enc_inj hA.2 hB.2 h2]
    congr 1
    obtain ⟨x0, x1, x2, x3⟩ := hx
    obtain ⟨y0, y1, y2, y3⟩ := hy
    simp only [mayR, Bool.and_eq_true, decide_eq_true_eq] at x3 y3
    simp only [enc6, List.cons.injEq] at h1
    obtain ⟨b0, b1, b2, b3, b4, b5, _⟩ := h1
    have b0 := byt_inj b0
    have b1 := byt_inj b1
    have b2 := byt_inj b2
    have b3 := byt_inj b3
    have b4 := byt_inj b4
    have b5 := byt_inj b5
    have hN : numF x = numF y := by
      have e1 : numF x < 281474976710656 := by unfold numF; omega
      have e2 : numF y < 281474976710656 := by unfold numF; omega
      omega
    obtain ⟨t, n, r, b⟩ := x
    obtain ⟨t', n', r', b'⟩ := y
    simp only [numF] at hN x0 x1 x2 x3 y0 y1 y2 y3
    have q1 : n = n' := by omega
    have q2 : r = r' := by omega
    have q3 : b = b' := by omega
    rw [x0, y0, q1, q2, q3]
set_option maxRecDepth 100000 in
set_option maxHeartbeats 8000000 in
theorem bytes_any (v : Value) (L : List FcE) (w : World) (h : FcV w v L) (ht : tblB 0 L = true) : Calls Try.prog 56 #[v] w fun e w' => e = .returned (.string ⟨(encB L).toArray⟩) ∧ Below w.heap.size w w' := by
  obtain ⟨a, n, cap, rfl, HN, m1, m2⟩ := h.sh
  have H1 := Lib.hid h
  clear h
  have HTM := Lib.hid (fun f hf => (tblB_mem ht f hf).2)
  have h16 : n ≤ 16 := by have := tbl_len16 ht; have := HN.out; omega
  clear ht
  go_enter Try.func56, Try.ntmps56
  go_wp2_with fail
  go_loopw [3, 5, 6, 7, 10] (fun vb _ _ _ i wr => ∃ (k : Nat) (ob : Option Nat), k ≤ n ∧ i = .int .i64 k ∧ ByO w.heap.size wr vb ob (encB (L.take k)) ∧ Below w.heap.size w wr) (fun _ _ _ _ i _ => n - (intOf i).toNat)
  case atStart => exact ⟨0, none, Nat.zero_le _, rfl, byo_nil _ _, Below.refl _ _⟩
  case round =>
    obtain ⟨k, ob, hk, rfl, hr, hB⟩ := hrel
    have HB := Lib.hid hB
    have HR := Lib.hid hr
    clear hB hr
    by_cases hlt : k < n
    · obtain ⟨g, o, x, ea, g1, hx, c0, c1, c2, c3⟩ := (H1.out.below HB.out).at k hlt
      subst ea
      have HE := Lib.hid (encB_take hx)
      have hxm := HTM.out x (List.mem_of_getElem? hx)
      obtain ⟨x0, x1, x2, x3⟩ := hxm
      simp only [mayR, Bool.and_eq_true, decide_eq_true_eq] at x3
      clear hx x0
      have ww5 : IntKind.i64.wrap ((k : Int) + 1) = (k : Int) + 1 := IntWalk.i64_in _ (by omega)
      go_upto_region 5 with fail
      obtain ⟨N, hN⟩ : ∃ n0, n0 = wr.heap.size := ⟨_, rfl⟩
      have HLON : Hid (w.heap.size ≤ N) := Lib.hid (by have := HB.out.size; omega)
      obtain ⟨W1, hA0⟩ : ∃ W0, W0 = wr.alloc (.cells #[.int .i64 x.tick, .int .i64 x.tenant, .int .i64 x.rate, .int .i64 x.burst] 87) := ⟨_, rfl⟩
      have hB : Below wr.heap.size wr W1 := by rw [hA0]; exact (Below.refl _ _).alloc (Nat.le_refl _) _
      have hS0 : W1.heap.size = N + 1 := by rw [hA0]; simp [← hN]
      have HK := Lib.hid (show Blk W1 N #[.int .i64 x.tick, .int .i64 x.tenant, .int .i64 x.rate, .int .i64 x.burst] 87 by rw [hA0, hN]; exact blk_new _ _ _)
      replace HB := Lib.hid (HB.out.trans (hB.mono HB.out.size))
      replace HR := Lib.hid (HR.out.step hB)
      clear hB
      have HSN := Lib.hid hS0
      rw [← hN, ← hA0]
      clear hA0 hN hS0
      have qK0 : W1.cell? ⟨N, 0, none⟩ = some (.int .i64 x.tick) := cell_at HK.out 0
      have qK1 : W1.cell? ⟨N, 1, none⟩ = some (.int .i64 x.tenant) := cell_at HK.out 1
      have qK2 : W1.cell? ⟨N, 2, none⟩ = some (.int .i64 x.rate) := cell_at HK.out 2
      have qK3 : W1.cell? ⟨N, 3, none⟩ = some (.int .i64 x.burst) := cell_at HK.out 3
      have qKz : ∀ j, W1.frozen? ⟨N, j, none⟩ = false := fun j => free_at HK.out j
      have qKl : N < W1.heap.size := HK.out.lt
      go_upto_region 6 with fail
      obtain ⟨N0, hN0⟩ : ∃ y, y = numF x := ⟨_, rfl⟩
      have HN0 := Lib.hid hN0
      have hor1 : bits .or .u64 (x.tenant * 1099511627776) (x.rate * 1048576) = x.tenant * 1099511627776 + x.rate * 1048576 := bits_join .u64 64 (by decide) wraps_u64 40 _ _ (by omega) (by omega) (by omega) (by omega) (by omega) (by omega)
      have hor2 : bits .or .u64 (x.tenant * 1099511627776 + x.rate * 1048576) x.burst = (N0 : Int) := by
        rw [bits_join .u64 64 (by decide) wraps_u64 20 _ _ (by omega) (by omega) (by omega) (by omega) (by omega) (by omega), hN0]
        unfold numF
        omega
      have hlt0 : N0 < 281474976710656 := by rw [hN0]; unfold numF; omega
      rw [hor1, hor2]
      clear hor1 hor2 hN0 x1 x2 x3
      go_wp2_with fail
      go_loopw [3, 7] (fun vb s wq => ∃ (j : Nat) (ob : Option Nat), j ≤ 6 ∧ s = .int .i64 (40 - 8 * (j : Int)) ∧ ByO w.heap.size wq vb ob (encB (L.take k) ++ (enc6 N0).take j) ∧ Below w.heap.size w wq) (fun _ s _ => (intOf s + 8).toNat)
      case atStart => exact ⟨0, _, Nat.zero_le _, rfl, by rw [List.take_zero, List.append_nil]; exact HR.out, HB.out⟩
      case round =>
        clear HR HK HB
        obtain ⟨j, ob, hj, rfl, hr, hB⟩ := hrel
        have HB := Lib.hid hB
        have HR := Lib.hid hr
        clear hB hr
        obtain rfl | rfl | rfl | rfl | rfl | rfl | rfl : j = 0 ∨ j = 1 ∨ j = 2 ∨ j = 3 ∨ j = 4 ∨ j = 5 ∨ j = 6 := by omega
        · have hE : (N0 : Int) / 1099511627776 = ((byt N0 1099511627776).toNat : Int) := by simp only [byt, UInt8.toNat_ofNat']; omega
          obtain ⟨v2, ob2, W2, hrun, hor, hBM⟩ := by_push (ty := 124) (b := wr.heap.size) (HR.out.step ((Below.refl wr.heap.size wr).alloc (Nat.le_refl _) (.cells #[.int .u8 ((N0 : Int) / 1099511627776)] 5))) (x := byt N0 1099511627776) (by rw [← hE]; exact blk_new _ _ _) (by have := HB.out.size; simp; omega) (by rw [List.length_append, encB_len, List.length_take, List.length_take]; omega)
          have HRUN := Lib.hid hrun
          have HOR := Lib.hid hor
          have HB2 := Lib.hid ((HB.out.alloc HB.out.size _).trans hBM)
          clear hrun hor hBM hE
          go_wp2_with (at_builtin; refine Lib.wpList_append_run _ rfl (.tmp 31) (.tmp 36) 124 124 rfl _ _ rfl rfl _ _ HRUN.out ?_)
          go_roundw
          case rel => exact ⟨1, _, by omega, by first | rfl | (congr 1; omega) | go_num, by rw [show (enc6 N0).take 1 = (enc6 N0).take 0 ++ [byt N0 1099511627776] from rfl, ← List.append_assoc]; exact HOR.out, HB2.out⟩
          case measure => simp [intOf]
        · have hE : (N0 : Int) / 4294967296 % 256 = ((byt N0 4294967296).toNat : Int) := by simp only [byt, UInt8.toNat_ofNat']; omega
          obtain ⟨v2, ob2, W2, hrun, hor, hBM⟩ := by_push (ty := 124) (b := wr.heap.size) (HR.out.step ((Below.refl wr.heap.size wr).alloc (Nat.le_refl _) (.cells #[.int .u8 ((N0 : Int) / 4294967296 % 256)] 5))) (x := byt N0 4294967296) (by rw [← hE]; exact blk_new _ _ _) (by have := HB.out.size; simp; omega) (by rw [List.length_append, encB_len, List.length_take, List.length_take]; omega)
          have HRUN := Lib.hid hrun
          have HOR := Lib.hid hor
          have HB2 := Lib.hid ((HB.out.alloc HB.out.size _).trans hBM)
          clear hrun hor hBM hE
          go_wp2_with (at_builtin; refine Lib.wpList_append_run _ rfl (.tmp 31) (.tmp 36) 124 124 rfl _ _ rfl rfl _ _ HRUN.out ?_)
          go_roundw
          case rel => exact ⟨2, _, by omega, by first | rfl | (congr 1; omega) | go_num, by rw [show (enc6 N0).take 2 = (enc6 N0).take 1 ++ [byt N0 4294967296] from rfl, ← List.append_assoc]; exact HOR.out, HB2.out⟩
          case measure => simp [intOf]
        · have hE : (N0 : Int) / 16777216 % 256 = ((byt N0 16777216).toNat : Int) := by simp only [byt, UInt8.toNat_ofNat']; omega
          obtain ⟨v2, ob2, W2, hrun, hor, hBM⟩ := by_push (ty := 124) (b := wr.heap.size) (HR.out.step ((Below.refl wr.heap.size wr).alloc (Nat.le_refl _) (.cells #[.int .u8 ((N0 : Int) / 16777216 % 256)] 5))) (x := byt N0 16777216) (by rw [← hE]; exact blk_new _ _ _) (by have := HB.out.size; simp; omega) (by rw [List.length_append, encB_len, List.length_take, List.length_take]; omega)
          have HRUN := Lib.hid hrun
          have HOR := Lib.hid hor
          have HB2 := Lib.hid ((HB.out.alloc HB.out.size _).trans hBM)
          clear hrun hor hBM hE
          go_wp2_with (at_builtin; refine Lib.wpList_append_run _ rfl (.tmp 31) (.tmp 36) 124 124 rfl _ _ rfl rfl _ _ HRUN.out ?_)
          go_roundw
          case rel => exact ⟨3, _, by omega, by first | rfl | (congr 1; omega) | go_num, by rw [show (enc6 N0).take 3 = (enc6 N0).take 2 ++ [byt N0 16777216] from rfl, ← List.append_assoc]; exact HOR.out, HB2.out⟩
          case measure => simp [intOf]
        · have hE : (N0 : Int) / 65536 % 256 = ((byt N0 65536).toNat : Int) := by simp only [byt, UInt8.toNat_ofNat']; omega
          obtain ⟨v2, ob2, W2, hrun, hor, hBM⟩ := by_push (ty := 124) (b := wr.heap.size) (HR.out.step ((Below.refl wr.heap.size wr).alloc (Nat.le_refl _) (.cells #[.int .u8 ((N0 : Int) / 65536 % 256)] 5))) (x := byt N0 65536) (by rw [← hE]; exact blk_new _ _ _) (by have := HB.out.size; simp; omega) (by rw [List.length_append, encB_len, List.length_take, List.length_take]; omega)
          have HRUN := Lib.hid hrun
          have HOR := Lib.hid hor
          have HB2 := Lib.hid ((HB.out.alloc HB.out.size _).trans hBM)
          clear hrun hor hBM hE
          go_wp2_with (at_builtin; refine Lib.wpList_append_run _ rfl (.tmp 31) (.tmp 36) 124 124 rfl _ _ rfl rfl _ _ HRUN.out ?_)
          go_roundw
          case rel => exact ⟨4, _, by omega, by first | rfl | (congr 1; omega) | go_num, by rw [show (enc6 N0).take 4 = (enc6 N0).take 3 ++ [byt N0 65536] from rfl, ← List.append_assoc]; exact HOR.out, HB2.out⟩
          case measure => simp [intOf]
        · have hE : (N0 : Int) / 256 % 256 = ((byt N0 256).toNat : Int) := by simp only [byt, UInt8.toNat_ofNat']; omega
          obtain ⟨v2, ob2, W2, hrun, hor, hBM⟩ := by_push (ty := 124) (b := wr.heap.size) (HR.out.step ((Below.refl wr.heap.size wr).alloc (Nat.le_refl _) (.cells #[.int .u8 ((N0 : Int) / 256 % 256)] 5))) (x := byt N0 256) (by rw [← hE]; exact blk_new _ _ _) (by have := HB.out.size; simp; omega) (by rw [List.length_append, encB_len, List.length_take, List.length_take]; omega)
          have HRUN := Lib.hid hrun
          have HOR := Lib.hid hor
          have HB2 := Lib.hid ((HB.out.alloc HB.out.size _).trans hBM)
          clear hrun hor hBM hE
          go_wp2_with (at_builtin; refine Lib.wpList_append_run _ rfl (.tmp 31) (.tmp 36) 124 124 rfl _ _ rfl rfl _ _ HRUN.out ?_)
          go_roundw
          case rel => exact ⟨5, _, by omega, by first | rfl | (congr 1; omega) | go_num, by rw [show (enc6 N0).take 5 = (enc6 N0).take 4 ++ [byt N0 256] from rfl, ← List.append_assoc]; exact HOR.out, HB2.out⟩
          case measure => simp [intOf]
        · have hE : (N0 : Int) % 256 = ((byt N0 1).toNat : Int) := by simp only [byt, UInt8.toNat_ofNat']; omega
          obtain ⟨v2, ob2, W2, hrun, hor, hBM⟩ := by_push (ty := 124) (b := wr.heap.size) (HR.out.step ((Below.refl wr.heap.size wr).alloc (Nat.le_refl _) (.cells #[.int .u8 ((N0 : Int) % 256)] 5))) (x := byt N0 1) (by rw [← hE]; exact blk_new _ _ _) (by have := HB.out.size; simp; omega) (by rw [List.length_append, encB_len, List.length_take, List.length_take]; omega)
          have HRUN := Lib.hid hrun
          have HOR := Lib.hid hor
          have HB2 := Lib.hid ((HB.out.alloc HB.out.size _).trans hBM)
          clear hrun hor hBM hE
          go_wp2_with (at_builtin; refine Lib.wpList_append_run _ rfl (.tmp 31) (.tmp 36) 124 124 rfl _ _ rfl rfl _ _ HRUN.out ?_)
          go_roundw
          case rel => exact ⟨6, _, by omega, by first | rfl | (congr 1; omega) | go_num, by rw [show (enc6 N0).take 6 = (enc6 N0).take 5 ++ [byt N0 1] from rfl, ← List.append_assoc]; exact HOR.out, HB2.out⟩
          case measure => simp [intOf]
        · have hr2 := HR.out
          rw [show (enc6 N0).take 6 = enc6 N0 from rfl, HN0.out, ← HE.out] at hr2
          have HR2 := Lib.hid hr2
          clear hr2
          go_wp2_with fail
          go_roundw
          case rel => exact ⟨k + 1, _, by omega, by go_num, HR2.out, HB.out⟩
          case measure => first | (simp [intOf]; done) | (simp [intOf]; omega)
    · obtain rfl : k = n := by omega
      have hcv := HR.out.string
      rw [HN.out, List.take_length] at hcv
      go_wp2_with fail
      go_ret
      exact ⟨rfl, HB.out⟩
end Go.Proofs.Ythmjlomlceljkaa
