/-
  The row's last step for a law of whatever parameters: they read as they did where nothing that was there has turned.
-/
import Derived.Test.YtdlpapchjjbplaaGreatDoorBel
import Derived.ChangeSame
import Derived.OpenVars
import Derived.OpenShut
namespace Go.Proofs.YtdlpapchjjbplaaGreatDoor
open Go.RowKit Go.WideShapes Go.ChangeShapes Go.WideElems

theorem below_trodAll {H : Type} {enc : TypeId × Value → H} {P : Program} (hl : laidOutB P = true) {W W' : World} (hb : Below W.heap.size W W') :
    ∀ {ts : List TypeId} {vs : List Value} {ds : List (DataW H)} {ps : List MemPlace}, (ts.all fun t => P.readableRec t && decide (t < P.types.size)) = true →
      DataW.TrodAll enc P W 0 (fun _ => true) true ts vs ds ps → DataW.TrodAll enc P W' 0 (fun b => decide (b < W.heap.size)) true ts vs ds ps := by
  intro ts
  induction ts with
  | nil =>
    intro vs ds ps _ h
    obtain ⟨rfl, rfl, rfl⟩ := trodAll_nil h
    exact trodAll_mk0
  | cons t ts ih =>
    intro vs ds ps ht h
    have hlt := h.lt
    obtain ⟨v, vs', d, ds', p, p', rfl, rfl, rfl, h1, h2⟩ := trodAll_cons h
    simp only [List.all_cons, Bool.and_eq_true] at ht
    obtain ⟨fuel, hf⟩ := h1
    have hp : ∀ x ∈ p, x.block < W.heap.size := fun x hx => hlt x (by simp [hx])
    exact trodAll_cons_mk ⟨fuel, DataW.trod_stays (kids_book hl ht.1.1) (book_sized ht.1.1) (fun h => by cases h) ⟨of_decide_eq_true ht.1.2, book_self t⟩ hf (fun x hx => hb.same (hp x hx)) (fun x hx => by simpa using hp x hx)⟩ (ih ht.2 h2)

theorem post_law {H : Type} {enc : TypeId × Value → H} {P : Program} {f : Func} {s : ChangeSpec} {apart fresh : Bool} {W W' : World} {args : Array Value} {v : Value} {ds : List (DataW H)} {before : List MemPlace}
    (hl : laidOutB P = true) (hp : (f.params.toList.all fun t => P.readableRec t && decide (t < P.types.size)) = true)
    (whole : DataW.Whole enc P f.params.toList s.vars apart W args.toList ds [] before) (hv : s.vars = []) (hargs : (s.fn H (ds ++ [])).args = ds) (hvars : (s.fn H (ds ++ [])).vars = [])
    (res : ∀ (b : Nat) (sp : Nat → Bool) (hd : Bool), DataW.TrodAll enc P W' b sp hd f.resultTypes.toList (v.resultList f.resultTypes.size) (s.fn H (ds ++ [])).results [])
    (below : Below W.heap.size W W') : s.post enc P f apart fresh false false W args v W' := by
  have whole' := whole
  obtain ⟨p, q, hA, hV, hbef, hfz, hnd⟩ := whole'
  refine ⟨ds, [], before, [], p, [], whole, res _ _ _, ?_, ?_, below.frame _, fun h => by cases h⟩
  · rw [hargs]
    exact below_trodAll hl below hp hA
  · rw [hv, hvars]; rfl
end Go.Proofs.YtdlpapchjjbplaaGreatDoor
