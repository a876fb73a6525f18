/- Right trees stay right, identities are counted: values. -/
import Derived.Test.YtmipodnffhngaaaMgAN
import Derived.Test.YtmipodnffhngaaaMgAJ
set_option linter.all false
namespace Go.Proofs.Ytmipodnffhngaaa.Top
open Go.RowKit
set_option maxRecDepth 20000
set_option linter.unusedVariables false

theorem alone_iff (t:Nd):aloneOk ltB t = true ↔ t.label.length≤64∧attrsOk ltB [] t.attrs = true∧(t.leaf = true→t.kids = [])∧(t.leaf = false→t.text = []):=by
  unfold aloneOk
  cases t.leaf <;> simp [and_assoc]
theorem rightss_iff:∀ l:List Nd,rightssV ltB l = true ↔ ∀ k ∈ l,rightsV ltB k = true
  | []=>by simp [rightssV]
  | k :: r=>by rw [rightssV,Bool.and_eq_true,rightss_iff r];simp
theorem rights_iff (t:Nd):rightsV ltB t = true ↔ aloneOk ltB t = true∧∀ k ∈ t.kids,rightsV ltB k = true:=by
  rw [rightsV_eq,Bool.and_eq_true,rightss_iff]
theorem with_alone (t:Nd) (l:List Nd) (h:aloneOk ltB t = true) (hl:t.leaf = false∨l = []):aloneOk ltB (t.withKids l) = true:=by
  rw [alone_iff] at h ⊢
  obtain ⟨-,e2,e3,e4,e5⟩:=with_id t l
  rw [e2,e3,e4,e5,with_kids]
  refine ⟨h.1,h.2.1,fun hh=>?_,h.2.2.2⟩
  rcases hl with hl | hl
  · rw [hl] at hh;cases hh
  · exact hl
theorem rights_put:∀ (p:List Int) (t z ws a:Nd),rightsV ltB t = true→rightsV ltB z = true→atV t p = some ws→z.leaf = ws.leaf→putV t p z = some a→rightsV ltB a = true∧a.leaf = t.leaf
  | [],t,z,ws,a,ht,hz,h,hlf,ha=>by
    simp only [atV,Option.some.injEq] at h
    simp only [putV,Option.some.injEq] at ha
    subst h ha
    exact ⟨hz,hlf⟩
  | c :: p,t,z,ws,a,ht,hz,h,hlf,ha=>by
    obtain ⟨j,k,rfl,hk,hw⟩:=atV_cons h
    rw [putV_nat hk] at ha
    cases hb:putV k p z with
    | none=>rw [hb] at ha;cases ha
    | some b =>
      rw [hb] at ha
      have ha:t.withKids (t.kids.set j b) = a:=Option.some.inj ha
      rw [rights_iff] at ht
      have ih:=(rights_put p k z ws b (ht.2 k (List.mem_of_getElem? hk)) hz hw hlf hb).1
      have hlt:t.leaf = false:=by
        have h1:=((alone_iff t).1 ht.1).2.2.1
        cases hh:t.leaf with
        | false=>rfl
        | true=>rw [h1 hh] at hk;simp at hk
      rw [← ha]
      refine ⟨(rights_iff _).2 ⟨with_alone t _ ht.1 (.inl hlt),fun m hm=>?_⟩,(with_id t _).2.1⟩
      rw [with_kids] at hm
      rcases List.mem_or_eq_of_mem_set hm with hm | hm
      · exact ht.2 m hm
      · rw [hm];exact ih
theorem rights_del {t m:Nd} {p:List Int} (ht:rightsV ltB t = true) (h:delAt t p = some m):rightsV ltB m = true∧m.leaf = t.leaf:=by
  cases p with
  | nil=>cases h
  | cons a r =>
    have h:modV t ((a :: r).dropLast) (delK ((a :: r).getLast (by simp)).toNat) = some m:=h
    generalize (a :: r).dropLast = q at h
    generalize ((a :: r).getLast (by simp)).toNat = c at h
    cases hy:atV t q with
    | none=>unfold modV at h;rw [hy] at h;cases h
    | some y =>
      rw [mod_at hy] at h
      have hry:=(rights_iff y).1 (rights_at q t y ht hy)
      refine rights_put q t _ y m ht ((rights_iff _).2 ⟨with_alone y _ hry.1 ?_,fun k hk=>?_⟩) hy (with_id y _).2.1 h
      · cases hl:y.leaf with
        | false=>exact .inl rfl
        | true=>rw [((alone_iff y).1 hry.1).2.2.1 hl];exact .inr (by simp [delK])
      · rw [with_kids] at hk
        unfold delK at hk
        rw [List.mem_append] at hk
        rcases hk with hk | hk
        · exact hry.2 k (List.mem_of_mem_take hk)
        · exact hry.2 k (List.mem_of_mem_drop hk)
theorem rights_ins {t m y x:Nd} {p:List Int} {g:Nat} (ht:rightsV ltB t = true) (hx:rightsV ltB x = true) (hy:atV t p = some y) (hl:y.leaf = false) (h:modV t p (insK g x) = some m):rightsV ltB m = true∧m.leaf = t.leaf:=by
  rw [mod_at hy] at h
  have hry:=(rights_iff y).1 (rights_at p t y ht hy)
  refine rights_put p t _ y m ht ((rights_iff _).2 ⟨with_alone y _ hry.1 (.inl hl),fun k hk=>?_⟩) hy (with_id y _).2.1 h
  rw [with_kids] at hk
  unfold insK at hk
  rw [List.mem_append,List.mem_cons] at hk
  rcases hk with hk | hk | hk
  · exact hry.2 k (List.mem_of_mem_take hk)
  · rw [hk];exact hx
  · exact hry.2 k (List.mem_of_mem_drop hk)
theorem docA_gone (k v u:Txt):∀ l:List (Txt × Txt),docA k v l true = docA k u l true
  | []=>rfl
  | a :: r=>by
    show (if !true && _ then _ else _) ++ (_ ++ docA k v r (true || _)) = (if !true && _ then _ else _) ++ (_ ++ docA k u r (true || _))
    rw [Bool.true_or,docA_gone k v u r]
    simp
theorem right_after {t:Nd} {o:Ov} (hr:rightV ltB t = true) (hf:faultV t o = 0):rightV ltB (afterV t o) = true:=by
  unfold rightV at hr ⊢
  rw [Bool.and_eq_true] at hr ⊢
  obtain ⟨hl,hr⟩:=hr
  suffices h:rightsV ltB (afterV t o) = true∧(afterV t o).leaf = t.leaf by
    rw [h.2]
    exact ⟨hl,h.1⟩
  obtain ⟨hfm,hroot,x,hx,h1,h3,h6⟩:=fault_none hf
  have hmay:=may_nat hfm
  have hrx:=(rights_iff x).1 (rights_at _ _ _ hr hx)
  have hax:=(alone_iff x).1 hrx.1
  by_cases k1:o.kind = 1
  · obtain ⟨m,hm⟩:=mod_some (f:=insK o.at_.toNat (.mk o.id o.leaf o.label [] [] [])) hx
    rw [show afterV t o = m by unfold afterV;rw [if_pos k1,hm];rfl]
    have hll:o.label.length≤64:=by
      have hh:=hfm
      unfold formedV at hh
      rw [if_pos k1] at hh
      simp only [Bool.and_eq_true] at hh
      exact of_decide_eq_true hh.2.2
    refine rights_ins (x:=.mk o.id o.leaf o.label [] [] []) hr ((rights_iff _).2 ⟨(alone_iff _).2 ⟨hll,rfl,fun _=>rfl,fun _=>rfl⟩,fun k hk=>by cases hk⟩) hx (gap_none (h1 k1)).1 hm
  · by_cases k2:o.kind = 2
    · have hne:o.path ≠ []:=fun e=>hroot ⟨.inl k2,e⟩
      obtain ⟨q,c,hq⟩:=path_last hne hmay
      have hx2:=hx
      rw [hq] at hx2
      obtain ⟨y,m,d1,d2,d3,d4,-⟩:=del_all hx2
      rw [show afterV t o = m by unfold afterV;rw [if_neg k1,if_pos k2,hq,d4];rfl]
      exact rights_del hr d4
    · by_cases k3:o.kind = 3
      · have hne:o.path ≠ []:=fun e=>hroot ⟨.inr k3,e⟩
        obtain ⟨hw,y,hy,hge⟩:=h3 k3
        have hfm3:=hfm
        unfold formedV at hfm3
        rw [if_neg k1,if_neg k2,if_pos k3] at hfm3
        simp only [Bool.and_eq_true] at hfm3
        obtain ⟨g,hg,hg1⟩:=gap_nat hfm3.2.1
        obtain ⟨m1,m2,y2,r,v1,v2,v3,v4,v5,v6,v7⟩:=move_value k3 hg hx hy hne hw (by have:=(gap_none hge).2;omega)
        rw [v7]
        have e1:=rights_ins hr (rights_at _ _ _ hr hx) hy (gap_none hge).1 v1
        have e2:=rights_del e1.1 v2
        exact ⟨e2.1,e2.2.trans e1.2⟩
      · have hfin:∀ z,rightsV ltB z = true→z.leaf = x.leaf→rightsV ltB ((putV t o.path z).getD Nd.zero) = true∧((putV t o.path z).getD Nd.zero).leaf = t.leaf:=fun z e1 e2=>by
          obtain ⟨a,ha,-⟩:=put_all o.path t z x hx
          rw [ha]
          exact rights_put o.path t z x a hr e1 hx e2 ha
        by_cases k4:o.kind = 4
        · rw [show afterV t o = (putV t o.path (attN x (docA o.key o.value x.attrs o.gone))).getD Nd.zero by unfold afterV;rw [if_neg k1,if_neg k2,if_neg k3,if_pos k4,hx];rfl]
          obtain ⟨e1,e2,e3,e4,e5,e6⟩:=attN_id x (docA o.key o.value x.attrs o.gone)
          refine hfin _ ((rights_iff _).2 ⟨(alone_iff _).2 ⟨by rw [e3];exact hax.1,?_,by rw [e2,e6];exact hax.2.2.1,by rw [e2,e4];exact hax.2.2.2⟩,by rw [e6];exact hrx.2⟩) e2
          rw [e5]
          have hh:=hfm
          unfold formedV at hh
          rw [if_neg k1,if_neg k2,if_neg k3,if_pos k4] at hh
          simp only [Bool.and_eq_true,Bool.or_eq_true] at hh
          have hkb:ltB [] o.key = true:=by
            have:=of_decide_eq_true (show decide (1≤o.key.length∧o.key.length≤64) = true from hh.2.1)
            rw [lt_iff]
            cases hk:o.key with
            | nil=>rw [hk] at this;simp at this
            | cons a r=>simp [Op.bytesLess]
          cases hg:o.gone with
          | true=>rw [docA_gone o.key o.value []];exact doc_ok o.key [] hh.2.1 (by decide) _ _ _ hax.2.1 (fun e=>by cases e)
          | false =>
            refine doc_ok o.key o.value hh.2.1 ?_ _ _ _ hax.2.1 (fun _=>hkb)
            rcases hh.2.2 with e | e
            · rw [hg] at e;cases e
            · exact of_decide_eq_true e
        · by_cases k5:o.kind = 5
          · rw [show afterV t o = (putV t o.path (labN x o.label)).getD Nd.zero by unfold afterV;rw [if_neg k1,if_neg k2,if_neg k3,if_neg k4,if_pos k5,hx];rfl]
            obtain ⟨e1,e2,e3,e4,e5,e6⟩:=labN_id x o.label
            have hh:=hfm
            unfold formedV at hh
            rw [if_neg k1,if_neg k2,if_neg k3,if_neg k4,if_pos k5] at hh
            simp only [Bool.and_eq_true] at hh
            exact hfin _ ((rights_iff _).2 ⟨(alone_iff _).2 ⟨by rw [e3];exact of_decide_eq_true hh.2,by rw [e5];exact hax.2.1,by rw [e2,e6];exact hax.2.2.1,by rw [e2,e4];exact hax.2.2.2⟩,by rw [e6];exact hrx.2⟩) e2
          · have k6:=form_kind hfm k1 k2 k3 k4 k5
            rw [show afterV t o = (putV t o.path (textN x (Ltx.apply x.text (pcs o.pieces)))).getD Nd.zero by unfold afterV;rw [if_neg k1,if_neg k2,if_neg k3,if_neg k4,if_neg k5,hx];rfl]
            obtain ⟨e1,e2,e3,e4,e5,e6⟩:=textN_id x (Ltx.apply x.text (pcs o.pieces))
            have hlf:=(edit_none (h6 k6)).1
            exact hfin _ ((rights_iff _).2 ⟨(alone_iff _).2 ⟨by rw [e3];exact hax.1,by rw [e5];exact hax.2.1,by rw [e2,e6];exact hax.2.2.1,by rw [e2,hlf];intro e;cases e⟩,by rw [e6];exact hrx.2⟩) e2
end Go.Proofs.Ytmipodnffhngaaa.Top

