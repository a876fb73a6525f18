/- Sectors as arrays, at the operations: a new one, a zero one, two compared, one in a struct. -/
import Derived.Test.YtffenadibnehfaaSecMap
import Derived.Stop.BytesEq
namespace Go.Proofs.Ytffenadibnehfaa
open Go.RowKit

def secA (s : List UInt8) : Array Value := (s.map byteV).toArray
/-- a write that was done, as a struct -/
def wrtA (z : Int) (s : List UInt8) : Array Value := (Value.int .i64 z :: s.map byteV).toArray
theorem secA_size {s : List UInt8} (h : s.length = 128) : (secA s).size = 128 := by simp [secA, h]
theorem wrtA_size {z : Int} {s : List UInt8} (h : s.length = 128) : (wrtA z s).size = 129 := by simp [wrtA, h]
theorem size_sec : (Try.prog.info? 56).map (·.size) = some 128 := by kernel_rfl
theorem size_wrt : (Try.prog.info? 58).map (·.size) = some 129 := by kernel_rfl
theorem secA_one (s : List UInt8) : (secA s).all (·.oneCell') = true := by
  rw [Array.all_eq_true_iff_forall_mem]
  intro v hv
  obtain ⟨c, _, rfl⟩ := List.mem_map.1 (by simpa [secA] using hv : v ∈ s.map byteV)
  rfl
theorem wrtA_one (z : Int) (s : List UInt8) : (wrtA z s).all (·.oneCell') = true := by
  rw [Array.all_eq_true_iff_forall_mem]
  intro v hv
  have hv' : v ∈ Value.int .i64 z :: s.map byteV := by simpa [wrtA] using hv
  rcases List.mem_cons.1 hv' with rfl | hv'
  · rfl
  · obtain ⟨c, _, rfl⟩ := List.mem_map.1 hv'
    rfl
theorem wrtA_at (z : Int) (s : List UInt8) : (wrtA z s)[0]? = some (.int .i64 z) := by simp [wrtA]
theorem wrtA_what (z : Int) (s : List UInt8) (j : Nat) : (wrtA z s)[1 + j]? = (s.map byteV)[j]? := by
  rw [Nat.add_comm]
  simp [wrtA]
theorem built_sec : Try.prog.built 56 [] = some (secA zsec) := by kernel_rfl
theorem built_wrt (z : Int) : Try.prog.built 58 [(0, .int .i64 z)] = some (wrtA z zsec) := by kernel_rfl
theorem zeroWrt (w : World) : (zeroValue 58).run Try.prog w = .ok (.agg (wrtA 0 zsec)) w := by kernel_rfl
section
variable {ops : Array Oper} {rest : List Oper} {o : Oper} {a : Act} {w : World} {Q : Exit → Act → World → Prop}
theorem wpList_build_sec (hgd : o.guard = none) (ho : o.op = .build 56 #[]) (h : wpList Try.prog ops Q rest (a.put o.dst (.agg (secA zsec))) w) : wpList Try.prog ops Q (o :: rest) a w := by
  refine wpList_plain hgd fun _ hK => ?_
  have e : (Array.map (fun x : Nat × Operand => (x.1, a.eval x.2)) #[]) = #[] := by simp
  unfold Oper.wp execOp
  simp only [ho, Sem.run_bind, e, run_build w 56 #[] (secA zsec) built_sec, Result.andThen_ok]
  exact hK _ _ h
theorem wpList_build_wrt (hgd : o.guard = none) (x : Operand) (z : Int) (ho : o.op = .build 58 #[(0, x)]) (hx : a.eval x = .int .i64 z) (h : wpList Try.prog ops Q rest (a.put o.dst (.agg (wrtA z zsec))) w) : wpList Try.prog ops Q (o :: rest) a w := by
  refine wpList_plain hgd fun _ hK => ?_
  have e : (Array.map (fun x : Nat × Operand => (x.1, a.eval x.2)) #[(0, x)]) = #[(0, .int .i64 z)] := by simp [hx]
  unfold Oper.wp execOp
  simp only [ho, Sem.run_bind, e, run_build w 58 #[(0, .int .i64 z)] (wrtA z zsec) (built_wrt z), Result.andThen_ok]
  exact hK _ _ h
theorem wpList_alloc_sec (hgd : o.guard = none) (ho : o.op = .alloc 56) (h : wpList Try.prog ops Q rest (a.put o.dst (.pointer (some ⟨w.heap.size, 0, none⟩))) (w.alloc (.cells (secA zsec) 56))) : wpList Try.prog ops Q (o :: rest) a w := by
  refine wpList_plain hgd fun _ hK => ?_
  unfold Oper.wp execOp
  simp only [ho, Sem.run_bind, Instr.alloc, zeroSec, newVar, newRow, run_newObj_alloc, Sem.run_pure, Result.andThen_ok]
  exact hK _ _ h
theorem wpList_alloc_wrt (hgd : o.guard = none) (ho : o.op = .alloc 58) (h : wpList Try.prog ops Q rest (a.put o.dst (.pointer (some ⟨w.heap.size, 0, none⟩))) (w.alloc (.cells (wrtA 0 zsec) 58))) : wpList Try.prog ops Q (o :: rest) a w := by
  refine wpList_plain hgd fun _ hK => ?_
  unfold Oper.wp execOp
  simp only [ho, Sem.run_bind, Instr.alloc, zeroWrt, newVar, newRow, run_newObj_alloc, Sem.run_pure, Result.andThen_ok]
  exact hK _ _ h
end

/-- two arrays of bytes compared -/
theorem run_eql_sec (w : World) (s r : List UInt8) (hs : s.length = 128) (hr : r.length = 128) : (binOp .eql 56 (.agg (secA s)) (.agg (secA r))).run Try.prog w = .ok (.bool (s == r)) w :=
  run_eql_bytes w 56 5 128 Try.underlying56 Try.underlying5 (fun w => by kernel_rfl) s r hs hr
theorem guard_sec : Try.prog.eqGuardType Try.prog.depth 56 = false := by kernel_rfl
section
variable {ops : Array Oper} {rest : List Oper} {o : Oper} {a : Act} {w : World} {Q : Exit → Act → World → Prop}
theorem wpList_eql_sec (hgd : o.guard = none) (x y : Operand) (ho : o.op = .binOp .eql 56 x y 56) (s r : List UInt8) (hx : a.eval x = .agg (secA s)) (hy : a.eval y = .agg (secA r)) (hs : s.length = 128) (hr : r.length = 128)
    (h : wpList Try.prog ops Q rest (a.put o.dst (.bool (s == r))) w) : wpList Try.prog ops Q (o :: rest) a w := by
  refine wpList_plain hgd fun _ hK => ?_
  have hg := run_eqGuard_agg (P := Try.prog) w .eql 56 x y (secA s) (secA r) guard_sec
  have he := run_eql_sec w s r hs hr
  unfold Oper.wp execOp
  simp only [ho, hx, hy, Sem.run_bind, hg, he, Result.andThen_ok, Sem.run_pure]
  exact hK _ _ h
theorem wpList_look_sec (hgd : o.guard = none) (m x : Operand) (ho : o.op = .lookup 46 m x false) (b n i : Nat) (f : Nat → List UInt8) (hm : a.eval m = .map (some b)) (hx : a.eval x = .int .i64 (i : Int)) (hS : SMap w b n f) (hi : i ≤ 9223372036854775807)
    (h : wpList Try.prog ops Q rest (a.put o.dst (.agg (secA (f i)))) w) : wpList Try.prog ops Q (o :: rest) a w := by
  refine wpList_plain hgd fun _ hK => ?_
  have hrun := (hS.look hi).1
  unfold Oper.wp
  simp [execOp, ho, hm, hx, hrun, Result.andThen]
  exact hK _ _ h
theorem wpList_put_sec (hgd : o.guard = none) (m x v : Operand) (ho : o.op = .mapUpdate 46 m x v) (b n i : Nat) (f : Nat → List UInt8) (s : List UInt8) (hm : a.eval m = .map (some b)) (hx : a.eval x = .int .i64 (i : Int)) (hv : a.eval v = .agg (secA s)) (hS : SMap w b n f) (hi : i < n) (hn : n ≤ 100000) (hs : s.length = 128)
    (h : ∀ w', SMap w' b n (upd f i s) → w.mapTurned w' b → wpList Try.prog ops Q rest (a.put o.dst undef) w') : wpList Try.prog ops Q (o :: rest) a w := by
  refine wpList_plain hgd fun _ hK => ?_
  obtain ⟨w', hrun, h1, h2⟩ := hS.put hn hi hs
  unfold Oper.wp
  rw [show arrV s = .agg (secA s) from rfl] at hrun
  simp [execOp, ho, hm, hx, hv, hrun, Result.andThen]
  exact hK _ _ (h w' h1 h2)
theorem wpList_del_sec (hgd : o.guard = none) (m x : Operand) (ho : o.op = Op.call { callee := Callee.builtin Builtin.delete, args := #[m, x], argTypes := #[46, 3] }) (b n i : Nat) (f : Nat → List UInt8) (hm : a.eval m = .map (some b)) (hx : a.eval x = .int .i64 (i : Int)) (hS : SMap w b n f) (hi : i ≤ 9223372036854775807)
    (h : ∀ w', SMap w' b n (upd f i zsec) → w.mapTurned w' b → wpList Try.prog ops Q rest (a.put o.dst (.tuple #[])) w') : wpList Try.prog ops Q (o :: rest) a w := by
  refine wpList_plain hgd fun _ hK => ?_
  obtain ⟨w', hrun, h1, h2⟩ := hS.del hi o.type
  unfold Oper.wp
  simp [execOp, ho, resolve, invoke, builtin, hm, hx, hrun, Result.andThen]
  exact hK _ _ (h w' h1 h2)
theorem wpList_clear_sec (hgd : o.guard = none) (m : Operand) (ho : o.op = Op.call { callee := Callee.builtin Builtin.clear, args := #[m], argTypes := #[46] }) (b n : Nat) (f : Nat → List UInt8) (hm : a.eval m = .map (some b)) (hS : SMap w b n f)
    (h : ∀ w', SMap w' b n (fun _ => zsec) → w.mapTurned w' b → wpList Try.prog ops Q rest (a.put o.dst (.tuple #[])) w') : wpList Try.prog ops Q (o :: rest) a w := by
  refine wpList_plain hgd fun _ hK => ?_
  obtain ⟨w', hrun, h1, h2⟩ := hS.clear o.type
  unfold Oper.wp
  simp [execOp, ho, resolve, invoke, builtin, hm, hrun, Result.andThen]
  exact hK _ _ (h w' h1 h2)
end
end Go.Proofs.Ytffenadibnehfaa
