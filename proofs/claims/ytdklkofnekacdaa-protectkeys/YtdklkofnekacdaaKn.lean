/- ProtectKeys: the walk's contracts are met, and the law. -/
import Derived.Test.YtdklkofnekacdaaKw1
import Derived.Test.YtdklkofnekacdaaKw2
import Derived.Test.YtdklkofnekacdaaKw3
namespace Go.Proofs.Ytdklkofnekacdaa
open Go.RowKit Go.Shelf Go.Lib
set_option linter.unusedVariables false

section
variable {W0 : World} {V R : Nat} {L0 L : List Tm} {l : List UInt8} {o : Option Addr} {cp : Nat} {s : List UInt8}
/-- Make and Tag, over the terms LA: what they tell. -/
structure Mt (W0 : World) (o : Option Addr) (n cp : Nat) (o2 : Option Addr) (n2 c2 : Nat) (s : List UInt8) (LX LC LD : List Tm) (KM T : List UInt8) (eM eT : Int) : Prop where
  mP : ∀ V R, Pc W0 V R 13 #[.pointer (some ⟨V, 0, none⟩), hv s] LX LX LC LX (.tuple #[hv KM, .int .i64 eM])
  mR : ∀ V R, Pc W0 V R 14 #[.pointer (some ⟨R, 0, none⟩), hv s] LC LX LC LC (.tuple #[hv KM, .int .i64 eM])
  kM : K3 KM
  tP : ∀ V R, Pc W0 V R 15 #[.pointer (some ⟨V, 0, none⟩), .slice o n cp, .slice o2 n2 c2] LC LC LD LC (.tuple #[hv T, .int .i64 eT])
  tR : ∀ V R, Pc W0 V R 16 #[.pointer (some ⟨R, 0, none⟩), .slice o n cp, .slice o2 n2 c2] LD LC LD LD (.tuple #[hv T, .int .i64 eT])
  kT : T.length = 16
theorem mP_yes (L : List Tm) (k : Nat) (hk : k < L.length) (hle : L.length ≤ 900) (h1 : niB k bKey L = true) (h2 : niB k bMask L = true) (LX : List Tm) : Pc W0 V R 13 #[.pointer (some ⟨V, 0, none⟩), hv (nameL k)] L LX (L ++ [dt k bKey, dt k bMask]) LX (.tuple #[hv (nameL k ++ nameL L.length ++ nameL (L.length + 1)), .int .i64 0]) :=
  .of_ag fun X hX => make_c hX hle k hk (ni h1) (ni h2)
theorem mR_yes (L : List Tm) (hc : cnB L = true) (k : Nat) (hk : k < L.length) (hle : L.length ≤ 900) (h1 : niB k bKey L = true) (h2 : niB k bMask L = true) (LX : List Tm) : Pc W0 V R 14 #[.pointer (some ⟨R, 0, none⟩), hv (nameL k)] LX L LX (L ++ [dt k bKey, dt k bMask]) (.tuple #[hv (nameL k ++ nameL L.length ++ nameL (L.length + 1)), .int .i64 0]) :=
  .of_rs fun X hX => rmk_c hX (cn hc) hle k hk (ni h1) (ni h2)
theorem mP_no (L LX : List Tm) (hle : L.length ≤ 40) : Pc W0 V R 13 #[.pointer (some ⟨V, 0, none⟩), hv s1] L LX L LX (.tuple #[hv z48, .int .i64 15]) :=
  .of_bel fun X hX => make_no hX.ag (by omega) s1 rfl fun k hk => s1_no k (by omega)
theorem mR_no (L LX : List Tm) (hle : L.length ≤ 40) : Pc W0 V R 14 #[.pointer (some ⟨R, 0, none⟩), hv s1] LX L LX L (.tuple #[hv z48, .int .i64 15]) :=
  .of_bel fun X hX => rmk_no hX (by omega) s1 rfl fun k hk => s1_no k (by omega)
variable {o2 : Option Addr} {c2 : Nat} {l2 : List UInt8}
abbrev xl (l : List UInt8) : UInt8 := UInt8.ofNat l.length
theorem xl_nat (h : l.length ≤ 20) : (xl l).toNat = l.length := by simp; omega
abbrev tT (l l2 : List UInt8) : Tm := ⟨2, 0, 0, bRetry, ⟨([xl l] ++ l ++ l2).toArray⟩⟩
theorem tP_yes (hS : Sl W0 o l) (h20 : l.length ≤ 20) (hS2 : Sl W0 o2 l2) (hl2 : l2.length ≤ 140737488351232) (L : List Tm) (h0 : 0 < L.length) (hle : L.length ≤ 900) (h1 : niB 0 bRetry L = true) (LX : List Tm) : Pc W0 V R 15 #[.pointer (some ⟨V, 0, none⟩), .slice o l.length cp, .slice o2 l2.length c2] L LX (L ++ [tT l l2]) LX (.tuple #[hv (nameL L.length), .int .i64 0]) :=
  .of_ag fun X hX => tag_c hX (by omega) (xl l) o l cp (xl_nat h20) h20 (hS.bel hX.bel) o2 l2 c2 (hS2.bel hX.bel) (by omega) L.length
    (fun Y g c hY hs => hY.der (by omega) 0 h0 bRetry (by decide) (by decide) (some ⟨g, 0, none⟩) c _ hs (ni h1))
theorem tR_yes (hS : Sl W0 o l) (h20 : l.length ≤ 20) (hS2 : Sl W0 o2 l2) (hl2 : l2.length ≤ 140737488351232) (L : List Tm) (hc : cnB L = true) (h0 : 0 < L.length) (hle : L.length ≤ 900) (h1 : niB 0 bRetry L = true) (LX : List Tm) : Pc W0 V R 16 #[.pointer (some ⟨R, 0, none⟩), .slice o l.length cp, .slice o2 l2.length c2] LX L LX (L ++ [tT l l2]) (.tuple #[hv (nameL L.length), .int .i64 0]) :=
  .of_rs fun X hX => rtag_c hX (xl l) o l cp (xl_nat h20) h20 (hS.bel hX.bel) o2 l2 c2 (hS2.bel hX.bel) hl2 L.length
    (fun Y g c hY hs => hY.der (cn hc) (by omega) 0 h0 bRetry (some ⟨g, 0, none⟩) c _ hs (ni h1))
theorem tP_no (n n2 : Nat) (hn : 20 < n) (L LX : List Tm) (hle : L.length ≤ 1000) : Pc W0 V R 15 #[.pointer (some ⟨V, 0, none⟩), .slice o n cp, .slice o2 n2 c2] L LX L LX (.tuple #[hv z16, .int .i64 2]) :=
  .of_bel fun X hX => tag_big hX.ag hle o n cp hn o2 n2 c2
theorem tR_no (n n2 : Nat) (hn : 20 < n) (L LX : List Tm) : Pc W0 V R 16 #[.pointer (some ⟨R, 0, none⟩), .slice o n cp, .slice o2 n2 c2] LX L LX L (.tuple #[hv z16, .int .i64 2]) :=
  .of_bel fun X hX => rtag_big R X o n cp hn o2 n2 c2
theorem mt_small (hS : Sl W0 o l) (h20 : l.length ≤ 20) (hS2 : Sl W0 o2 l2) (hl2 : l2.length ≤ 140737488351232) (k : Nat) (hk : k < 3) :
    Mt W0 o l.length cp o2 l2.length c2 (nameL (1 + k)) (lA2 l) (lA2 l ++ [dt (1 + k) bKey, dt (1 + k) bMask]) (lA2 l ++ [dt (1 + k) bKey, dt (1 + k) bMask] ++ [tT l l2]) (nameL (1 + k) ++ nameL 17 ++ nameL 18) (nameL 19) 0 0 := by
  rcases (show k = 0 ∨ k = 1 ∨ k = 2 by omega) with rfl | rfl | rfl
  all_goals exact ⟨fun V R => mP_yes (lA2 l) _ (by simp [lA2, lB1, lA1, lB0, lA0]) (by simp [lA2, lB1, lA1, lB0, lA0]) rfl rfl _, fun V R => mR_yes (lA2 l) rfl _ (by simp [lA2, lB1, lA1, lB0, lA0]) (by simp [lA2, lB1, lA1, lB0, lA0]) rfl rfl _, K3.mk (nameL_len _) (nameL_len _) (nameL_len _),
    fun V R => tP_yes hS h20 hS2 hl2 _ (by simp) (by simp [lA2, lB1, lA1, lB0, lA0]) rfl _, fun V R => tR_yes hS h20 hS2 hl2 _ rfl (by simp) (by simp [lA2, lB1, lA1, lB0, lA0]) rfl _, nameL_len _⟩
theorem mt_small' (hS : Sl W0 o l) (h20 : l.length ≤ 20) (hS2 : Sl W0 o2 l2) (hl2 : l2.length ≤ 140737488351232) :
    Mt W0 o l.length cp o2 l2.length c2 s1 (lA2 l) (lA2 l) (lA2 l ++ [tT l l2]) z48 (nameL 17) 15 0 :=
  ⟨fun V R => mP_no (lA2 l) _ (by simp [lA2, lB1, lA1, lB0, lA0]), fun V R => mR_no (lA2 l) _ (by simp [lA2, lB1, lA1, lB0, lA0]), K3.z,
    fun V R => tP_yes hS h20 hS2 hl2 (lA2 l) (by simp [lA2, lB1, lA1, lB0, lA0]) (by simp [lA2, lB1, lA1, lB0, lA0]) rfl _, fun V R => tR_yes hS h20 hS2 hl2 (lA2 l) rfl (by simp [lA2, lB1, lA1, lB0, lA0]) (by simp [lA2, lB1, lA1, lB0, lA0]) rfl _, nameL_len _⟩
theorem mt_big (n n2 : Nat) (hn : 20 < n) (k : Nat) (hk : k < 3) : Mt W0 o n cp o2 n2 c2 (nameL (1 + k)) lA0 (lA0 ++ [dt (1 + k) bKey, dt (1 + k) bMask]) (lA0 ++ [dt (1 + k) bKey, dt (1 + k) bMask]) (nameL (1 + k) ++ nameL 4 ++ nameL 5) z16 0 2 := by
  rcases (show k = 0 ∨ k = 1 ∨ k = 2 by omega) with rfl | rfl | rfl
  all_goals exact ⟨fun V R => mP_yes lA0 _ (by simp [lA0]) (by simp [lA0]) rfl rfl _, fun V R => mR_yes lA0 rfl _ (by simp [lA0]) (by simp [lA0]) rfl rfl _, K3.mk (nameL_len _) (nameL_len _) (nameL_len _),
    fun V R => tP_no n n2 hn _ _ (by simp [lA0]), fun V R => tR_no n n2 hn _ _, rfl⟩
theorem mt_big' (n n2 : Nat) (hn : 20 < n) : Mt W0 o n cp o2 n2 c2 s1 lA0 lA0 lA0 z48 z16 15 2 :=
  ⟨fun V R => mP_no lA0 _ (by simp [lA0]), fun V R => mR_no lA0 _ (by simp [lA0]), K3.z, fun V R => tP_no n n2 hn _ _ (by simp [lA0]), fun V R => tR_no n n2 hn _ _, rfl⟩
def fAx (l : List UInt8) : Nat → List Tm | 0 => lA0 | 1 => lA1 l | _ => lA2 l
def fBx (l : List UInt8) : Nat → List Tm | 0 => lB0 l | _ => lB1 l
def fIx : Nat → List UInt8 | 0 => nameL 5 ++ nameL 6 ++ nameL 7 | _ => nameL 11 ++ nameL 12 ++ nameL 13
def fNx : Nat → List UInt8 | 0 => nameL 8 ++ nameL 9 ++ nameL 7 | _ => nameL 14 ++ nameL 15 ++ nameL 13
theorem cs_small {n2 : Nat} {LC LD : List Tm} {KM T : List UInt8} {eM eT : Int} (hS : Sl W0 o l) (h20 : l.length ≤ 20) (m : Mt W0 o l.length cp o2 n2 c2 s (lA2 l) LC LD KM T eM eT) (V R : Nat) : Cs W0 V R o l.length cp o2 n2 c2 s (fAx l) (fBx l) LC LD fIx fNx KM T 0 0 eM eT := by
  refine ⟨?_, ?_, ?_, ?_, ?_, ?_, m.mP V R, m.mR V R, m.kM, m.tP V R, m.tR V R, m.kT⟩
  all_goals
    intro j hj
    rcases (show j = 0 ∨ j = 1 by omega) with rfl | rfl
  · exact pI0 hS h20
  · exact pI1 hS h20
  · exact rI0 hS h20
  · exact rI1 hS h20
  · exact pN0
  · exact pN1
  · exact rN0
  · exact rN1
  · exact K3.mk (nameL_len _) (nameL_len _) (nameL_len _)
  · exact K3.mk (nameL_len _) (nameL_len _) (nameL_len _)
  · exact K3.mk (nameL_len _) (nameL_len _) (nameL_len _)
  · exact K3.mk (nameL_len _) (nameL_len _) (nameL_len _)
theorem cs_big {n n2 : Nat} {LC LD : List Tm} {KM T : List UInt8} {eM eT : Int} (hn : 20 < n) (m : Mt W0 o n cp o2 n2 c2 s lA0 LC LD KM T eM eT) (V R : Nat) : Cs W0 V R o n cp o2 n2 c2 s (fun _ => lA0) (fun _ => lA0) LC LD (fun _ => z48) (fun _ => z48) KM T 2 15 eM eT :=
  ⟨fun j _ => .of_bel fun X hX => initial_big hX.ag (by simp [lA0]) o n cp hn _, fun j _ => .of_bel fun X hX => rinitial_big R X o n cp hn _,
    fun j _ => .of_bel fun X hX => next_no hX.ag (by simp [lA0]) fun k hk => z16_no k (by simp [lA0] at hk; omega), fun j _ => .of_bel fun X hX => rnext_no hX (by simp [lA0]) fun k hk => z16_no k (by simp [lA0] at hk; omega),
    fun _ _ => K3.z, fun _ _ => K3.z, m.mP V R, m.mR V R, m.kM, m.tP V R, m.tR V R, m.kT⟩
theorem keys_law (o o2 : Option Addr) (cp c2 : Nat) (l l2 : List UInt8) (num : Int) (w : World) (hS : Sl w o l) (hS2 : Sl w o2 l2) (hb : l2.length ≤ 140737488351232) :
    Calls Try.prog 3 #[.slice o l.length cp, .int .i64 num, .slice o2 l2.length c2] w fun e w' => e = .returned (.bool true) ∧ Below w.heap.size w w' := by
  by_cases h20 : l.length ≤ 20
  · by_cases h0 : num < 0
    · exact keys_walk_lo o o2 cp c2 _ _ num w _ _ _ _ _ _ _ _ _ _ _ _ rfl h0 (cs_small hS h20 (mt_small' hS h20 hS2 hb))
    by_cases h3 : 3 ≤ num
    · exact keys_walk_hi o o2 cp c2 _ _ num w _ _ _ _ _ _ _ _ _ _ _ _ rfl h3 (cs_small hS h20 (mt_small' hS h20 hS2 hb))
    exact keys_walk_in o o2 cp c2 _ _ num w _ _ _ _ _ _ _ _ _ _ _ _ rfl num.toNat (by omega) (by omega) (cs_small hS h20 (mt_small hS h20 hS2 hb num.toNat (by omega)))
  · have hn : 20 < l.length := by omega
    by_cases h0 : num < 0
    · exact keys_walk_lo o o2 cp c2 _ _ num w _ _ _ _ _ _ _ _ _ _ _ _ rfl h0 (cs_big hn (mt_big' _ _ hn))
    by_cases h3 : 3 ≤ num
    · exact keys_walk_hi o o2 cp c2 _ _ num w _ _ _ _ _ _ _ _ _ _ _ _ rfl h3 (cs_big hn (mt_big' _ _ hn))
    exact keys_walk_in o o2 cp c2 _ _ num w _ _ _ _ _ _ _ _ _ _ _ _ rfl num.toNat (by omega) (by omega) (cs_big hn (mt_big _ _ hn num.toNat (by omega)))
end
end Go.Proofs.Ytdklkofnekacdaa
