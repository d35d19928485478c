/-
  How much the edits' results hold. No condition.
-/
import Derived.Test.YtncbgofcimghnaaEdJ
namespace Go.Proofs.Ytncbgofcimghnaa
open Go.RowKit
theorem AuR_sz {c : Prop} {r d rr dd : Int} {zss yss : List (List Int)} {ok : Bool} (h : AuR c r d zss rr dd yss ok) (hz : c → szL zss ≤ 1048576) : szL yss ≤ 1048576 := by
  rcases h with ⟨h1, _, _, _, rfl⟩ | ⟨_, _, _, _, rfl⟩
  · exact hz h1
  · simp [szL]
theorem cu_sz {r d f t rr dd : Int} {xss yss : List (List Int)} {ok : Bool} (h : CuR r d f t xss rr dd yss ok) : szL yss ≤ 1048576 :=
  AuR_sz h (fun hc => by
    obtain ⟨u, H, hV⟩ := va_of hc.1
    have hh := hV.hd
    have h1 := hc.2.1
    have h2 := hc.2.2.1
    have h3 := hc.2.2.2
    have := va_sz (va_cut (f := f.toNat) (t := t.toNat) hV (by omega) (by omega))
    omega)
theorem fd_sz {r d t rr dd : Int} {xss yss : List (List Int)} {ok : Bool} (h : FdR r d t xss rr dd yss ok) : szL yss ≤ 1048576 :=
  AuR_sz h (fun hc => by
    obtain ⟨u, H, hV⟩ := va_of hc.1
    have hh := hV.hd
    have h1 := hc.2.1
    have h2 := hc.2.2
    have := va_sz (va_fade (s := t.toNat) hV (by omega))
    omega)
theorem rv_sz {r d rr dd : Int} {xss yss : List (List Int)} {ok : Bool} (h : RvR r d xss rr dd yss ok) : szL yss ≤ 1048576 :=
  AuR_sz h (fun hc => by
    obtain ⟨u, H, hV⟩ := va_of hc
    have := va_sz (va_rev hV)
    omega)
theorem jn_sz {r d r' d' rr dd : Int} {xss yss zss : List (List Int)} {ok : Bool} (h : JnR r d xss r' d' yss rr dd zss ok) : szL zss ≤ 1048576 :=
  AuR_sz h (fun hc => by
    obtain ⟨h1, h2, rfl, rfl, h5, h6⟩ := hc
    obtain ⟨u, H, hV⟩ := va_of h1
    obtain ⟨u', H', hV'⟩ := va_of h2
    obtain rfl := va_u hV hV' rfl
    rw [hV.hd, hV'.hd] at h6
    have := va_sz (va_join hV hV' h5 h6)
    omega)
end Go.Proofs.Ytncbgofcimghnaa
