/- The program's disk is what the law asks of it. -/
import Derived.Test.YtffenadibnehfaaSecProgG
namespace Go.Proofs.Ytffenadibnehfaa
open Go.RowKit

def theSys : Sys where
  At := PD
  lt := fun ⟨_, _, _, h⟩ => h.all_lt
  apart := fun ⟨_, _, _, h⟩ => h.apart
  kept := fun ⟨bb, nb, lv, h⟩ hk => ⟨bb, nb, lv, h.kept hk⟩
  new_ := fun w s => (pnew_any w s).mono fun _ _ ⟨X, S, bb, nb, lv, h1, h2, h3, h4⟩ => ⟨X, S, h1, ⟨bb, nb, lv, h2⟩, h3, h4⟩
  sectors := fun ⟨_, _, _, h⟩ _ => psectors_any h
  writes := fun ⟨_, _, _, h⟩ _ => pwrites_any h
  off := fun ⟨_, _, _, h⟩ _ => poff_any h
  read := fun ⟨_, _, _, h⟩ _ i => pread_any h i
  write := fun ⟨_, _, _, h⟩ hL i A n c b hB hnc hcm _ => (pwrite_any h hL.wr hL.high i A n c b hB hnc hcm).mono fun _ _ ⟨h1, S', lv', h2, h3, h4⟩ => ⟨h1, S', ⟨_, _, lv', h2⟩, h3, h4⟩
  cut := fun ⟨_, _, _, h⟩ hL k => (pcut_any h hL.wr k).mono fun _ _ ⟨X, S', b1, n1, l1, h1, h2, h3, h4⟩ => ⟨X, S', h1, ⟨b1, n1, l1, h2⟩, fun j hj => .inr (h3 j hj), h4⟩
  settle := fun ⟨_, _, _, h⟩ _ => (psettle_any h).mono fun _ _ ⟨h1, S', h2, h3, h4⟩ => ⟨h1, S', ⟨_, _, _, h2⟩, fun k hk => .inl (h3 k hk), h4⟩
  fail_ := fun {_ S _ _ _} ⟨_, _, _, h⟩ _ n => (pfail_any h n).mono fun _ _ ⟨h1, h2, h4⟩ => ⟨h1, S, ⟨_, _, _, h2⟩, fun _ hk => .inl hk, h4⟩
  crash := fun {_ S _ _ _} ⟨_, _, _, h⟩ _ => (pcrash_any h).mono fun _ _ ⟨h1, h2, h4⟩ => ⟨h1, S, ⟨_, _, _, h2⟩, fun _ hk => .inl hk, h4.widen fun k e => (h.stands k).2 (.inl e)⟩
  on := fun {_ S _ _ _} ⟨_, _, _, h⟩ _ => (pon_any h).mono fun _ _ ⟨h1, h2, h4⟩ => ⟨h1, S, ⟨_, _, _, h2⟩, fun _ hk => .inl hk, h4.widen fun k e => (h.stands k).2 (.inl e)⟩
end Go.Proofs.Ytffenadibnehfaa
