/- The law: of any two lists it is told whether they say the same. -/
import Derived.Test.YtidimannfemnmaaLstW
import Derived.Test.YtidimannfemnmaaMgZZ
set_option linter.all false
namespace Go.Proofs.Ytidimannfemnmaa.Lst
open Go.RowKit Top Shf Sim Sqr
set_option maxRecDepth 20000

theorem rows_light {w:World} {A:Option Addr} {n:Nat} {l:List (Ov × OS)} {k:Nat} (h:OpsAt w A n l) (hl:lightL l k 60 = true):OpsR w A n l :=
  ⟨h.1,fun q x hq=>by
    obtain ⟨h1,h2⟩:=h.2 q x hq
    unfold lightL at hl
    rw [Bool.and_eq_true] at hl
    have h3:=List.all_eq_true.1 hl.2 x (List.mem_of_getElem? hq)
    obtain ⟨a,b,-,-,-,c,-⟩:=of_decide_eq_true h3
    exact ⟨h1.op (by omega) (by omega) (by omega),h2⟩⟩
theorem light_len {l:List (Ov × OS)} {k t:Nat} (hl:lightL l k t = true):l.length≤k:=by
  unfold lightL at hl
  rw [Bool.and_eq_true] at hl
  exact of_decide_eq_true hl.1
set_option maxHeartbeats 8000000 in
theorem lawSame_any (w:World) (A:Option Addr) (n c:Nat) (l1:List (Ov × OS)) (B:Option Addr) (m d:Nat) (l2:List (Ov × OS)) (h1:OpsAt w A n l1) (h2:OpsAt w B m l2) (hn:n≤maxLen) (hm:m≤maxLen) :
    Calls Try.prog 12 #[.slice A n c,.slice B m d] w fun e w'=>e = .returned (.bool true)∧Below w.heap.size w w':=by
  have k1:=Lib.hid (lightlist_any w A n c l1 h1 hn 50 60 (by omega) (by omega))
  have k2:=Lib.hid (fun (W:World) (hB:Below w.heap.size w W)=>lightlist_any W B m d l2 (h2.below hB) hm 50 60 (by omega) (by omega))
  obtain ⟨f1,hf1⟩:∃ Q9,Q9 = lightL l1 50 60:=⟨_,rfl⟩
  obtain ⟨f2,hf2⟩:∃ Q9,Q9 = lightL l2 50 60:=⟨_,rfl⟩
  rw [← hf1] at k1
  rw [← hf2] at k2
  cases f1 with
  | false =>
    clear h1 h2 hf1 hf2 hn hm
    go_enter Try.func12,Try.ntmps12
    go_wp2_with (first | (go_at_call 58;(refine (works_any _).mono ?_;rintro e wz ⟨rfl,hbz⟩;have BZ:=Lib.hid (V1.out.trans (hbz.mono V1.out.size));clear hbz)) | (go_at_call 61;(refine k1.out.mono ?_;rintro e u1 ⟨rfl,hb9⟩;have V1:=Lib.hid hb9;clear hb9)))
    go_ret
    exact ⟨rfl,BZ.out⟩
  | true =>
    cases f2 with
    | false =>
      clear h1 h2 hf1 hf2 hn hm
      go_enter Try.func12,Try.ntmps12
      go_wp2_with (first | (go_at_call 58;(refine (works_any _).mono ?_;rintro e wz ⟨rfl,hbz⟩;have BZ:=Lib.hid (V2.out.trans (hbz.mono V2.out.size));clear hbz)) | (go_at_call_of 61 B;(refine (k2.out u1 V1.out).mono ?_;rintro e u2 ⟨rfl,hb9⟩;have V2:=Lib.hid (V1.out.trans (hb9.mono V1.out.size));clear hb9)) | (go_at_call_of 61 A;(refine k1.out.mono ?_;rintro e u1 ⟨rfl,hb9⟩;have V1:=Lib.hid hb9;clear hb9)))
      go_ret
      exact ⟨rfl,BZ.out⟩
    | true =>
      have r1:=rows_light h1 hf1.symm
      have r2:=rows_light h2 hf2.symm
      have e1:=light_len hf1.symm
      have e2:=h1.1
      have p1:=Lib.hid (fun (W:World) (hB:Below w.heap.size w W)=>same_prog W A n c l1 B m d l2 (r1.below hB) (r2.below hB) (by omega))
      have p2:=Lib.hid (fun (W:World) (hB:Below w.heap.size w W)=>same_ref W A n c l1 B m d l2 (r1.below hB) (r2.below hB) (by omega))
      have p3:=Lib.hid (fun (W:World) (hB:Below w.heap.size w W)=>same_prog W A n c l1 A n c l1 (r1.below hB) (r1.below hB) (by omega))
      obtain ⟨bb,hbb⟩:∃ Q9,Q9 = sameL (l1.map Prod.fst) (l2.map Prod.fst):=⟨_,rfl⟩
      rw [← hbb] at p1 p2
      rw [sameL_refl] at p3
      have hbe:(bb == bb) = true:=by cases bb <;> rfl
      clear h1 h2 hf1 hf2 hn hm r1 r2 e1 e2 hbb
      go_enter Try.func12,Try.ntmps12
      go_wp2_with (first | (go_at_call 58;(refine (works_any _).mono ?_;rintro e wz ⟨rfl,hbz⟩;have BZ:=Lib.hid (V5.out.trans (hbz.mono V5.out.size));clear hbz)) | (go_at_call_of 63 B;(refine (p2.out u3 V3.out).mono ?_;rintro e u4 ⟨rfl,hb9⟩;have V4:=Lib.hid (V3.out.trans (hb9.mono V3.out.size));clear hb9)) | (go_at_call_of 62 B;(refine (p1.out u2 V2.out).mono ?_;rintro e u3 ⟨rfl,hb9⟩;have V3:=Lib.hid (V2.out.trans (hb9.mono V2.out.size));clear hb9)) | (go_at_call_of 62 A;(refine (p3.out u4 V4.out).mono ?_;rintro e u5 ⟨rfl,hb9⟩;have V5:=Lib.hid (V4.out.trans (hb9.mono V4.out.size));clear hb9)) | (go_at_call_of 61 B;(refine (k2.out u1 V1.out).mono ?_;rintro e u2 ⟨rfl,hb9⟩;have V2:=Lib.hid (V1.out.trans (hb9.mono V1.out.size));clear hb9)) | (go_at_call_of 61 A;(refine k1.out.mono ?_;rintro e u1 ⟨rfl,hb9⟩;have V1:=Lib.hid hb9;clear hb9)))
      go_ret
      exact ⟨rfl,BZ.out⟩
end Go.Proofs.Ytidimannfemnmaa.Lst

