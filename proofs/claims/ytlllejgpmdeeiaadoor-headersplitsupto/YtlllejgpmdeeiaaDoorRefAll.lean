/- What caravelref02.Read answers, whatever the bytes: all cases joined. -/
import Derived.Test.YtlllejgpmdeeiaaDoorRefSplit
import Derived.Test.YtlllejgpmdeeiaaDoorRefShort
import Derived.Test.YtlllejgpmdeeiaaDoorRefVers
import Derived.Test.YtlllejgpmdeeiaaDoorRefVersNo
import Derived.Test.YtlllejgpmdeeiaaDoorRefOne
import Derived.Test.YtlllejgpmdeeiaaDoorRefKinds
namespace Go.Proofs.YtlllejgpmdeeiaaDoor

theorem rreads : RReads := by
  intro b off cap l ids w hs hp hlm hc hcm
  have hl : l.length ≤ 140737488355327 := by omega
  by_cases hi : ids < 0 ∨ 20 < ids
  · exact rread_ids b off cap l ids w hi
  have h0 : 0 ≤ ids := by omega
  have h1 : ids ≤ 20 := by omega
  by_cases hf : fb l < 64
  · exact rread_form b off cap l ids w hs hp hl h0 h1 hf
  by_cases hf2 : fb l < 128
  · by_cases hn : (l.length : Int) < 1 + ids
    · exact rread_few b off cap l ids w hs hp hl h0 h1 (by omega) hf2 hn
    · obtain ⟨N, rfl⟩ := Int.eq_ofNat_of_zero_le h0
      exact rread_short b off cap l N w hs hl hc hcm (by omega) (by omega) hf2 (by omega)
  have hf3 : 128 ≤ fb l := by omega
  by_cases hn : l.length < 5
  · exact rread_five b off cap l ids w hs hp hl hc hcm h0 h1 hf3 hn
  have hn5 : 5 ≤ l.length := by omega
  by_cases hid : iOk l 5
  case neg => exact rread_id1 b off cap l ids w hs hl hc hcm h0 h1 hf3 hn5 hid
  by_cases hid2 : iOk l (6 + iN l 5)
  case neg => exact rread_id2 b off cap l ids w hs hl hc hcm h0 h1 hf3 hn5 hid hid2
  by_cases hv0 : num (sub l 1 4) = 0
  · by_cases hg : 7 + iN l 5 + iN l (6 + iN l 5) < l.length ∧ (l.length - (7 + iN l 5 + iN l (6 + iN l 5))) % 4 = 0
    · exact rread_vers_yes b off cap l ids w hs hl hc hcm h0 h1 hf3 hn5 hid hid2 hv0 hlm hg
    · exact rread_vers_no b off cap l ids w hs hl hc hcm h0 h1 hf3 hn5 hid hid2 hv0 hg
  by_cases hv1 : num (sub l 1 4) = 1
  case neg => exact rread_other b off cap l ids w hs hl hc hcm h0 h1 hf3 hn5 hid hid2 hv0 hv1
  by_cases hb6 : fb l / 64 % 2 = 0
  · exact rread_fixed b off cap l ids w hs hl hc hcm h0 h1 hf3 hn5 hid hid2 hv1 hb6
  have hk : fb l / 16 % 4 = 0 ∨ fb l / 16 % 4 = 1 ∨ fb l / 16 % 4 = 2 ∨ fb l / 16 % 4 = 3 := by omega
  rcases hk with hk | hk | hk | hk
  · exact rreadk_0 b off cap l ids w hs hl hc hcm h0 h1 hf3 hn5 hid hid2 hv1 hb6 hk
  · exact rreadk_1 b off cap l ids w hs hl hc hcm h0 h1 hf3 hn5 hid hid2 hv1 hb6 hk
  · exact rreadk_2 b off cap l ids w hs hl hc hcm h0 h1 hf3 hn5 hid hid2 hv1 hb6 hk
  · exact rreadk_3 b off cap l ids w hs hl hc hcm h0 h1 hf3 hn5 hid hid2 hv1 hb6 hk
end Go.Proofs.YtlllejgpmdeeiaaDoor
