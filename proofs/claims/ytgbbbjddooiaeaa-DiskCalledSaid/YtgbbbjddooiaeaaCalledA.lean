/-
  The disks of the law DiskCalled, deed by deed; a disk of the call's own beside a row that stands.
-/
import Derived.Test.YtgbbbjddooiaeaaBytes
import Derived.Test.YtgbbbjddooiaeaaFullA
namespace Go.Proofs.Ytgbbbjddooiaeaa
open Go.RowKit

def sX : ByteArray := ⟨#[120]⟩
def sT : ByteArray := ⟨#[116]⟩
def sY : ByteArray := ⟨#[121]⟩
def on1 (n : ByteArray) (t : List UInt8) (s : Nat) : PD := ⟨[⟨n, t, s⟩], false, false, 0, []⟩
def on2 (n : ByteArray) (t : List UInt8) (s : Nat) (m : ByteArray) (u : List UInt8) (r : Nat) : PD := ⟨[⟨n, t, s⟩, ⟨m, u, r⟩], false, false, 0, []⟩

section
variable (A B : List UInt8) (s : Nat)
theorem q1 : PD.new.make sX = (on1 sX [] 0, 0) := by kernel_rfl
theorem q2 (h : A.length + B.length ≤ 1048576) : (on1 sX A s).append sX B = (on1 sX (A ++ B) s, 0) := by
  have hf : (on1 sX A s).find sX = some 0 := by kernel_rfl
  rw [PD.append, hf]
  show (if (on1 sX A s).down = true then _ else if 1048576 < A.length + B.length then _ else _) = _
  rw [if_neg (by simp [on1]), if_neg (by omega)]
  rfl
theorem q3 : (on1 sX A 0).sync sX = (on1 sX A A.length, 0) := by kernel_rfl
theorem q4 : (on1 sX A s).make sY = (on2 sX A s sY [] 0, 0) := by kernel_rfl
theorem q5 (h : B.length ≤ 1048576) : (on2 sX A s sY [] 0).append sY B = (on2 sX A s sY B 0, 0) := by
  have hf : (on2 sX A s sY [] 0).find sY = some 1 := by kernel_rfl
  rw [PD.append, hf]
  show (if (on2 sX A s sY [] 0).down = true then _ else if 1048576 < ([] : List UInt8).length + B.length then _ else _) = _
  rw [if_neg (by simp [on2]), if_neg (by simp; omega)]
  rfl
theorem q6 : (on2 sX A s sY B 0).rename sX sT = (on2 sT A s sY B 0, 0) := by kernel_rfl
theorem q7 : (on2 sT A s sY B 0).rename sY sX = (on2 sT A s sX B 0, 0) := by kernel_rfl
theorem q8 : (on2 sT A s sX B 0).rename sT sY = (on2 sY A s sX B 0, 0) := by kernel_rfl
theorem q9 : (on2 sY A s sX B 0).rename sX sT = (on2 sY A s sT B 0, 0) := by kernel_rfl
theorem q10 : (on2 sY A s sT B 0).rename sY sX = (on2 sX A s sT B 0, 0) := by kernel_rfl
theorem q11 : (on2 sX A s sT B 0).rename sT sY = (on2 sX A s sY B 0, 0) := by kernel_rfl
theorem q12 : (on2 sX A s sY B 0).read sX = (A, 0) := by kernel_rfl
theorem q13 : (on2 sX A s sY B 0).read sY = (B, 0) := by kernel_rfl
theorem q14 : (on2 sY A s sX B 0).read sX = (B, 0) := by kernel_rfl
theorem q15 : (on2 sY A s sX B 0).read sY = (A, 0) := by kernel_rfl
theorem le_xy : (([120] : List UInt8) ≤ [121]) = True := eq_true (by decide)
theorem le_yx : (([121] : List UInt8) ≤ [120]) = False := eq_false (by decide)
theorem q16 : (on2 sX A s sY B 0).names = [[120], [121]] := by
  show List.mergeSort [[120], [121]] _ = _
  simp [List.mergeSort, List.cons_merge_cons, le_xy]
theorem q17 : (on2 sY A s sX B 0).names = [[120], [121]] := by
  show List.mergeSort [[121], [120]] _ = _
  simp [List.mergeSort, List.cons_merge_cons, le_yx]
theorem q18 : (on2 sX A s sY B 0).sureOf sX = (s, 0) := by kernel_rfl
theorem q19 : (on2 sX A s sY B 0).rename sY sX = (on1 sX B 0, 0) := by kernel_rfl
theorem q20 : (on1 sX B 0).rename sX sX = (on1 sX B 0, 0) := by kernel_rfl
theorem q21 : (on1 sX B 0).read sX = (B, 0) := by kernel_rfl
theorem q22 : (on1 sX B 0).read sY = ([], 4) := by kernel_rfl
end

/-- The same, and a row outside the disk that stands. -/
structure OneR (w0 w : World) (D : Nat) (l : List Nat) (d : PD) (R : Nat) (o : Obj) : Prop where
  one : One w0 w D l d
  off : R ∉ l
  row : w.heap[R]? = some o
theorem OneR.quiet {w0 w w' : World} {D : Nat} {l : List Nat} {d : PD} {R : Nat} {o : Obj} (h : OneR w0 w D l d R o) (hB : Below w.heap.size w w') : OneR w0 w' D l d R o :=
  ⟨h.one.quiet hB, h.off, (hB.block R (lt_of_block h.row)).trans h.row⟩
theorem OneR.drew {w0 w : World} {D : Nat} {l : List Nat} {d : PD} {R : Nat} {o : Obj} (h : OneR w0 w D l d R o) : OneR w0 w.drew D l d R o :=
  h.quiet ⟨rfl, rfl, rfl, Nat.le_refl _, fun _ _ => rfl⟩
theorem OneR.to {w0 w w' : World} {D : Nat} {l : List Nat} {d d' : PD} {R : Nat} {o : Obj} (h : OneR w0 w D l d R o) (hT : To D l w d' w') : ∃ l', OneR w0 w' D l' d' R o := by
  have hlt := lt_of_block h.row
  obtain ⟨l', h1, h2, h3⟩ := hT
  refine ⟨l', ⟨h1, fun x hx => ?_, h.one.below.trans (h2.below h.one.below.size h.one.new)⟩, fun hR => ?_, (h2.block R hlt h.off).trans h.row⟩
  · rcases h3 x hx with e | e
    · exact h.one.new x e
    · have := h.one.below.size; omega
  · rcases h3 R hR with e | e
    · exact h.off e
    · omega
theorem rename_R {w0 w : World} {D : Nat} {l : List Nat} {d d' : PD} {c : Int} {R : Nat} {o : Obj} (T : OneR w0 w D l d R o) (a b : ByteArray) (hb : b.size ≤ maxLen) (hm : d.rename a b = (d', c)) :
    Calls Try.prog 28 #[.pointer (some ⟨D, 0, none⟩), .string a, .string b] w fun r w' => r = .returned (.int .i64 c) ∧ ∃ l', OneR w0 w' D l' d' R o := by
  have h := rename_any T.one.one a b hb
  rw [hm] at h
  exact h.mono fun _ _ ⟨h1, h2⟩ => ⟨h1, T.to h2⟩

end Go.Proofs.Ytgbbbjddooiaeaa
