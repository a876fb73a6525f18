/- The program's steps in memory: a step without so many bytes of its beginning; an edit as a row of steps. -/
import Derived.Test.YtoeplaofgmdlbaaLtxR
import Derived.Test.YtoeplaofgmdlbaaLtxP
namespace Go.Proofs.Ytoeplaofgmdlbaa
open Go.RowKit
set_option maxRecDepth 20000
open Ltx (Pc)

def St.code : St → Int
  | .keep _ => 1
  | .put _ => 2
  | .drop _ => 3
def St.text : St → List UInt8
  | .put t => t
  | _ => []
/-- a step's three cells -/
def St.cells (s : St) : List Value := [.int .u8 s.code, .int .i64 (s.size : Int), .string ⟨s.text.toArray⟩]
def endC : List Value := [.int .u8 4, .int .i64 9223372036854775807, .string ⟨#[]⟩]
/-- the step behind the row, or in it -/
def headC : List St → List Value
  | [] => endC
  | s :: _ => s.cells
def stepV (l : List Value) : Value := .agg l.toArray
theorem Try.infoS : (Try.prog.info? 61).map (fun i => (i.zero, i.size, i.bytes)) = some (some (.agg #[.int .u8 0, .int .i64 0, .string ⟨#[]⟩]), 3, 32) := by kernel_rfl
theorem new2 {w : World} (o1 o2 : Obj) : Below w.heap.size w ((w.alloc o1).alloc o2) := ((Below.refl w.heap.size w).alloc (Nat.le_refl _) _).alloc (by simp) _
set_option maxHeartbeats 1000000 in
theorem sbehind_end (w : World) (n : Nat) :
    Calls Try.prog 51 #[.agg #[.int .u8 4, .int .i64 9223372036854775807, .string ⟨#[]⟩], .int .i64 (n : Int)] w fun e w' => e = .returned (.agg #[.int .u8 4, .int .i64 9223372036854775807, .string ⟨#[]⟩]) ∧ Below w.heap.size w w' := by
  go_enter Try.func51, Try.ntmps51
  go_wp2_with fail
  exact bodyPost_ret (v := .agg #[.int .u8 4, .int .i64 9223372036854775807, .string ⟨#[]⟩]) (by simp [results, Try.results51, go_sem]) rfl ⟨rfl, new2 _ _⟩
set_option maxHeartbeats 1000000 in
theorem sbehind_keep (w : World) (n m : Nat) (h : m ≤ n) (hn : n ≤ 1000000000) :
    Calls Try.prog 51 #[.agg #[.int .u8 1, .int .i64 (n : Int), .string ⟨#[]⟩], .int .i64 (m : Int)] w fun e w' => e = .returned (.agg #[.int .u8 1, .int .i64 ((n - m : Nat) : Int), .string ⟨#[]⟩]) ∧ Below w.heap.size w w' := by
  have he : ((n - m : Nat) : Int) = (n : Int) - (m : Int) := by omega
  have he' := Lib.hid he
  clear he
  go_enter Try.func51, Try.ntmps51
  go_wp2_with fail
  exact bodyPost_ret (v := .agg #[.int .u8 1, .int .i64 ((n : Int) - (m : Int)), .string ⟨#[]⟩]) (by simp [results, Try.results51, go_sem]) rfl ⟨by rw [he'.out], new2 _ _⟩
set_option maxHeartbeats 1000000 in
theorem sbehind_drop (w : World) (n m : Nat) (h : m ≤ n) (hn : n ≤ 1000000000) :
    Calls Try.prog 51 #[.agg #[.int .u8 3, .int .i64 (n : Int), .string ⟨#[]⟩], .int .i64 (m : Int)] w fun e w' => e = .returned (.agg #[.int .u8 3, .int .i64 ((n - m : Nat) : Int), .string ⟨#[]⟩]) ∧ Below w.heap.size w w' := by
  have he : ((n - m : Nat) : Int) = (n : Int) - (m : Int) := by omega
  have he' := Lib.hid he
  clear he
  go_enter Try.func51, Try.ntmps51
  go_wp2_with fail
  exact bodyPost_ret (v := .agg #[.int .u8 3, .int .i64 ((n : Int) - (m : Int)), .string ⟨#[]⟩]) (by simp [results, Try.results51, go_sem]) rfl ⟨by rw [he'.out], new2 _ _⟩
set_option maxHeartbeats 1000000 in
theorem sbehind_put (w : World) (t : List UInt8) (m : Nat) (h : m ≤ t.length) (hn : t.length ≤ 1000000000) :
    Calls Try.prog 51 #[.agg #[.int .u8 2, .int .i64 (t.length : Int), .string ⟨t.toArray⟩], .int .i64 (m : Int)] w fun e w' => e = .returned (.agg #[.int .u8 2, .int .i64 ((t.drop m).length : Int), .string ⟨(t.drop m).toArray⟩]) ∧ Below w.heap.size w w' := by
  have he : (((t.drop m).length : Nat) : Int) = (t.length : Int) - (m : Int) := by rw [List.length_drop]; omega
  have he' := Lib.hid he
  have hI : (m : Int) ≤ (t.length : Int) := by omega
  clear he
  go_enter Try.func51, Try.ntmps51
  go_wp2_with fail
  exact bodyPost_ret (v := .agg #[.int .u8 2, .int .i64 ((t.length : Int) - (m : Int)), .string ((⟨t.toArray⟩ : ByteArray).extract m t.length)]) (by simp [results, Try.results51, go_sem]) rfl ⟨by rw [he'.out, ext_drop], new2 _ _⟩
theorem sbehind_any (w : World) (s : St) (m : Nat) (h : m ≤ s.size) (hn : s.size ≤ 1000000000) :
    Calls Try.prog 51 #[stepV s.cells, .int .i64 (m : Int)] w fun e w' => e = .returned (stepV (s.cut m).cells) ∧ Below w.heap.size w w' := by
  cases s with
  | keep n => exact sbehind_keep w n m h hn
  | put t => exact sbehind_put w t m h hn
  | drop n => exact sbehind_drop w n m h hn
end Go.Proofs.Ytoeplaofgmdlbaa
