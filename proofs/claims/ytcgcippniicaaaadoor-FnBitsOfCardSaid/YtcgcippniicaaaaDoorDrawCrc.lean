/-
  The draws of lists of bytes out of a code: 'anyBytes' and what draws with it. For every code.
-/
import Derived.Test.YtcgcippniicaaaaDoorDraw
namespace Go.Proofs.YtcgcippniicaaaaDoor
open Go.RowKit

set_option maxHeartbeats 400000 in
theorem anyBytes_any (r P : Nat) (w : World) (hR : Rdr w r P) (hP : P < 800000) :
    Calls Tryd.prog 51 #[.pointer (some ⟨r, 0, none⟩)] w (DrewR 17 r (P + 30) w) := by
  go_enter Tryd.func51, Tryd.ntmps51
  go_wp2_with fail
  refine (randomBytes_any r P _ hR (by omega)).mono ?_
  rintro e w1 ⟨v1, len, xs, rfl, hlen, ho1, hR1, hg1⟩
  obtain ⟨ao, cap, rfl, h1, h2, h3, h4⟩ := ho1.reads
  have HG := Lib.hid hg1
  have hsz := hg1.size
  have hsp := spoil_any xs 256 ao len cap r (P + 20) w1 h3 h2 (by omega) hR1 (by omega)
  clear hR hg1 ho1 h3 h4 h2 hR1
  go_wp2_with fail
  refine hsp.mono ?_
  rintro e w2 ⟨ao2, len2, cap2, xs2, rfl, k1, k2, k3, k4, k5, k6, k7⟩
  have HD : Hid (DrewR 17 r (P + 30) w (.returned (.slice ao2 len2 cap2)) w2) :=
    ⟨ao2, len2, cap2, xs2, rfl, by omega, k2, k3, k4, (fun a e => ⟨Nat.le_trans hsz (k5 a e).1, (k5 a e).2⟩), k6.mono (by omega), grown_trans HG.out k7⟩
  clear hsp k1 k2 k3 k4 k5 k6 k7
  go_wp2
  go_ret
  exact HD.out

end Go.Proofs.YtcgcippniicaaaaDoor
