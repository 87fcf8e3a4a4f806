/-
  Layer 11: all that the landed table says.
-/
import Derived.Test.YtdbgbldmjgonjaaTcE
import Derived.Test.YtdbgbldmjgonjaaTcJ
import Derived.Test.YtdbgbldmjgonjaaTcM
import Derived.Test.YtdbgbldmjgonjaaTbU
namespace Go.Proofs.Ytdbgbldmjgonjaa
open Go.RowKit

theorem tableSS_holds : TableSS where
  first := fun w => (firstT_any w).mono (fun e w' h => by
    obtain ⟨s, h1, h2, _, h3⟩ := h
    exact ⟨s, h1, h2.es, fun _ => h2.ty, h3⟩)
  check := fun t v w h _ => checkT_b t v _ w h rfl
  enc := fun t v w h _ => (encT_any t v w h).mono (fun e w' k => k)
  dec := fun a len cap xs w h _ => ldecT_any a len cap xs w h
  find := fun t v tx w h _ => findT_any t v tx w h
  live := fun t v w h _ => by
    cases hm : mayB t with
    | false =>
      rw [liveL_no hm]
      exact (llive_no t v w h hm).mono (fun e w' k => ⟨_, k.1, OwnsV.nil _ _ _, k.2⟩)
    | true =>
      rw [liveL_yes (mayB_iff.1 hm)]
      exact llive_yes t v w h (mayB_iff.1 hm)
  eld := fun t v w h _ => by
    cases hm : mayB t with
    | false =>
      rw [eldestL_no hm]
      exact leld_no t v w h hm
    | true =>
      rw [eldestL_yes (mayB_iff.1 hm)]
      exact leld_yes t v w h (mayB_iff.1 hm)
  ent := fun t v tx w h _ => lenterT_any t v tx w h
  wri := fun t v tx c w h _ => lwriteT_any t v tx c w h
  com := fun t v tx w h _ => lcommitT_any t v tx w h
  lea := fun t v tx w h _ => lleaveT_any t v tx w h
  same := fun t v u s w h k _ _ => lsameT_any t v u s w h k

end Go.Proofs.Ytdbgbldmjgonjaa
