/- FramePads: what Read tells of its bytes. -/
import Derived.Test.YtfejhlfcabbkcaaDoorRl
import Derived.Test.YtfejhlfcabbkcaaDoorPy
import Derived.Test.YtfejhlfcabbkcaaDoorPw
namespace Go.Proofs.YtfejhlfcabbkcaaDoor
open Go.ChangeShapes Go.WideShapes Go.ChangeAt Go.RowKit
set_option linter.unusedVariables false
set_option maxRecDepth 100000

theorem num_1 (l : List UInt8) (a : Nat) (h : a < l.length) : num (sub l a 1) = l[a].toNat := by
  have := num_step l a 0 h
  simpa [sub, num] using this
theorem v_byte (l : List UInt8) (a k : Nat) (h : a < l.length) (hk : l[a].toNat = k) (hk6 : k < 64) : vE l a = 0 ∧ vV l a = k ∧ vN l a = (a + 1 : Nat) := by
  have hw : wd l a = 2 ^ 0 := wd_of h (by omega)
  obtain ⟨e1, e2, e3⟩ := v_yes 64 (by decide) h hw (by omega)
  rw [num_1 l a h, hk] at e1
  refine ⟨e3, ?_, e2⟩
  rw [e1]
  omega
theorem v_two (l : List UInt8) (a n : Nat) (h : a + 1 < l.length) (h0 : l[a].toNat = 64 + n / 256) (h1 : l[a + 1].toNat = n % 256) (hn : n ≤ 1024) : vE l a = 0 ∧ vV l a = n ∧ vN l a = (a + 2 : Nat) := by
  have hw : wd l a = 2 ^ 1 := wd_of (by omega) (by omega)
  obtain ⟨e1, e2, e3⟩ := v_yes 16384 (by decide) (show a < l.length by omega) hw (by omega)
  have e4 : num (sub l a 2) = (64 + n / 256) * 256 + n % 256 := by
    have := num_step l a 1 h
    rw [this, num_1 l a (by omega), h0, h1]
  rw [show (2 : Nat) ^ 1 = 2 from rfl] at e1 e2
  rw [e4] at e1
  refine ⟨e3, ?_, e2⟩
  rw [e1]
  omega
theorem encv_cases : ∀ n : Fin 1025, encv (n.val : Int) = if n.val < 64 then [UInt8.ofNat n.val] else [UInt8.ofNat (64 + n.val / 256), UInt8.ofNat (n.val % 256)] := by decide +kernel
theorem encv_at (n : Nat) (h : n ≤ 1024) : encv (n : Int) = if n < 64 then [UInt8.ofNat n] else [UInt8.ofNat (64 + n / 256), UInt8.ofNat (n % 256)] := encv_cases ⟨n, by omega⟩
/-- A number that was laid is read. -/
theorem v_num (k : UInt8) (n : Nat) (h : n ≤ 1024) (Z : List UInt8) : vE (k :: (encv (n : Int) ++ Z)) 1 = 0 ∧ vV (k :: (encv (n : Int) ++ Z)) 1 = n ∧ vN (k :: (encv (n : Int) ++ Z)) 1 = ((1 + (encv (n : Int)).length : Nat) : Int) := by
  rw [encv_at n h]
  by_cases h6 : n < 64
  · rw [if_pos h6]
    have := v_byte (k :: ([UInt8.ofNat n] ++ Z)) 1 n (by simp) (by simp; omega) h6
    exact this
  · rw [if_neg h6]
    have := v_two (k :: ([UInt8.ofNat (64 + n / 256), UInt8.ofNat (n % 256)] ++ Z)) 1 n (by simp) (by simp; omega) (by simp) h
    exact this
/-- What the law knows of bytes: where they lie, whatever is above. -/
structure Lb (w : World) (ao : Option Addr) (c : Nat) (l : List UInt8) : Prop where
  sl : Sl w ao l
  tb : Tb w
  ll : l.length ≤ 90000
  ao : ∀ a, ao = some a → a.block < w.heap.size
  cp : l.length ≤ c
theorem Lb.bel {w X : World} {ao : Option Addr} {c : Nat} {l : List UInt8} (h : Lb w ao c l) (hb : Below w.heap.size w X) : Lb X ao c l :=
  ⟨Sl_below h.sl hb, Tb_below h.tb hb (Tb_pos h.tb), h.ll, fun a ha => by have := h.ao a ha; have := hb.size; omega, h.cp⟩
def pad (n : Nat) : Fr := { fz 0 with cnt := (n : Int) }
theorem pad_std (n : Nat) : (pad n).std := ⟨rfl, rfl, rfl, rfl, List.replicate 8 0, rfl, rfl⟩
/-- Bytes 0 to the end are one frame. -/
theorem rds_pad {w : World} {ao : Option Addr} {c : Nat} {l : List UInt8} (h : Lb w ao c l) (a : Nat) (ha : a < l.length) (hz : ∀ j (hj : j < l.length), a ≤ j → l[j] = 0) : Rds w ao c l a (pad (l.length - a)) l.length := by
  intro X hX
  have hL := h.bel hX
  obtain ⟨e1, e2, e3⟩ := v_byte l a 0 ha (by rw [hz a ha (Nat.le_refl _)]; rfl) (by decide)
  refine read_c 0 (pad (l.length - a)) l.length hL.sl hL.tb hL.ll hL.ao ha e1 e2 e3 (by decide) (by decide) (pad_std _) rfl (.inl ⟨rfl, by simp only [pad]; omega⟩) (fun p F Y hq => ?_)
  have := rwalk_0 hq (fz_std 0).r16 (fz_std 0).p8 (by omega) (fun j hj hj2 => hz j hj (by omega))
  rw [show (1 + ((l.length - (a + 1) : Nat) : Int)) = ((l.length - a : Nat) : Int) by omega] at this
  exact this
/-- The five frames ahead. -/
theorem rds_one {w : World} {ao : Option Addr} {c : Nat} {l : List UInt8} (h : Lb w ao c l) (k : Nat) (hk : k = 1 ∨ k = 30) (hl : 0 < l.length) (h0 : l[0].toNat = k) : Rds w ao c l 0 (fz k) 1 := by
  intro X hX
  have hL := h.bel hX
  obtain ⟨e1, e2, e3⟩ := v_byte l 0 k hl h0 (by omega)
  rcases hk with rfl | rfl
  · exact read_c 1 (fz 1) 1 hL.sl hL.tb hL.ll hL.ao hl e1 e2 e3 (by decide) (by decide) (fz_std _) rfl (.inr (.inl rfl)) (fun p F Y hq => rwalk_1 hq)
  · exact read_c 30 (fz 30) 1 hL.sl hL.tb hL.ll hL.ao hl e1 e2 e3 (by decide) (by decide) (fz_std _) rfl (.inr (.inr (.inr (.inr (.inr rfl))))) (fun p F Y hq => rwalk_30 hq)
theorem rds_16 {w : World} {ao : Option Addr} {c : Nat} {l : List UInt8} (h : Lb w ao c l) (hl : 0 < l.length) (h0 : l[0].toNat = 16) (n b : Nat) (hE : vE l 1 = 0) (hV : vV l 1 = n) (hN : vN l 1 = b) : Rds w ao c l 0 { fz 16 with lim := (n : Int) } b := by
  intro X hX
  have hL := h.bel hX
  obtain ⟨e1, e2, e3⟩ := v_byte l 0 16 hl h0 (by omega)
  refine read_c 16 { fz 16 with lim := (n : Int) } b hL.sl hL.tb hL.ll hL.ao hl e1 e2 e3 (by decide) (by decide) ⟨rfl, rfl, rfl, rfl, List.replicate 8 0, rfl, rfl⟩ rfl (.inr (.inr (.inl rfl))) (fun p F Y hq => ?_)
  have := rwalk_16 hq hE b hN
  rw [show vV l (((0 + 1 : Nat)) : Int) = n from hV] at this
  exact this
theorem rds_25 {w : World} {ao : Option Addr} {c : Nat} {l : List UInt8} (h : Lb w ao c l) (hl : 0 < l.length) (h0 : l[0].toNat = 25) (n b : Nat) (hE : vE l 1 = 0) (hV : vV l 1 = n) (hN : vN l 1 = b) : Rds w ao c l 0 { fz 25 with seq := (n : Int) } b := by
  intro X hX
  have hL := h.bel hX
  obtain ⟨e1, e2, e3⟩ := v_byte l 0 25 hl h0 (by omega)
  refine read_c 25 { fz 25 with seq := (n : Int) } b hL.sl hL.tb hL.ll hL.ao hl e1 e2 e3 (by decide) (by decide) ⟨rfl, rfl, rfl, rfl, List.replicate 8 0, rfl, rfl⟩ rfl (.inr (.inr (.inr (.inl rfl)))) (fun p F Y hq => ?_)
  have := rwalk_25 hq hE b hN
  rw [show vV l (((0 + 1 : Nat)) : Int) = n from hV] at this
  exact this
theorem rds_26 {w : World} {g off : Nat} {c : Nat} {l : List UInt8} (h : Lb w (some ⟨g, off, none⟩) c l) (hl : 9 ≤ l.length) (h0 : l[0].toNat = 26) : Rds w (some ⟨g, off, none⟩) c l 0 { fz 26 with pt := bc (sub l 1 8) } 9 := by
  intro X hX
  have hL := h.bel hX
  obtain ⟨e1, e2, e3⟩ := v_byte l 0 26 (by omega) h0 (by omega)
  exact read_c 26 { fz 26 with pt := bc (sub l 1 8) } 9 hL.sl hL.tb hL.ll hL.ao (by omega) e1 e2 e3 (by decide) (by decide) ⟨rfl, rfl, rfl, rfl, sub l 1 8, sub_length l 1 8 (by omega), rfl⟩ rfl (.inr (.inr (.inr (.inr (.inl rfl))))) (fun p F Y hq => rwalk_26 hq (fz_std 26).r16 (fz_std 26).p8 (by omega) hL.cp)
/-- What the five kinds are put as, besides the kind. -/
def tail5 (k n : Nat) : List UInt8 := if k = 16 ∨ k = 25 then encv (n : Int) else if k = 26 then List.replicate 8 0 else []
/-- A frame of the five, then bytes 0. -/
theorem rdl_two {w : World} {g off : Nat} {c : Nat} (k n : Nat) (hk : k = 1 ∨ k = 16 ∨ k = 26 ∨ k = 30 ∨ k = 25) (h1 : 1 ≤ n) (hn : n ≤ 1024) (l : List UInt8) (hl : l = (UInt8.ofNat k :: tail5 k n) ++ List.replicate n 0) (h : Lb w (some ⟨g, off, none⟩) c l) :
    ∃ f : Fr, f.k = (k : Int) ∧ (k = 16 → f.lim = (n : Int)) ∧ Rdl w (some ⟨g, off, none⟩) c l 0 [f, pad n] := by
  have hb : ∀ b : Nat, b = (UInt8.ofNat k :: tail5 k n).length → Rds w (some ⟨g, off, none⟩) c l b (pad n) l.length ∧ b < l.length := by
    intro b hb
    have hlen : l.length = b + n := by rw [hl, List.length_append, List.length_replicate, hb]
    have := rds_pad h b (by omega) (fun j hj hj2 => by
      simp only [hl]
      rw [List.getElem_append_right (by omega)]
      simp)
    rw [show l.length - b = n by omega] at this
    exact ⟨this, by omega⟩
  have hpos : 0 < l.length := by rw [hl]; simp
  have hz : l[0] = UInt8.ofNat k := by simp only [hl]; rfl
  rcases hk with rfl | rfl | rfl | rfl | rfl
  · obtain ⟨r1, r2⟩ := hb 1 rfl
    exact ⟨fz 1, rfl, (fun e => absurd e (by decide)), hpos, fz_std 1, 1, rds_one h 1 (.inl rfl) hpos (by rw [hz]; rfl), r2, pad_std n, _, r1, rfl⟩
  · obtain ⟨r1, r2⟩ := hb (1 + (encv (n : Int)).length) (by simp [tail5]; omega)
    obtain ⟨e1, e2, e3⟩ := v_num (UInt8.ofNat 16) n hn (List.replicate n 0)
    have el : l = UInt8.ofNat 16 :: (encv (n : Int) ++ List.replicate n 0) := by rw [hl]; simp [tail5]
    rw [← el] at e1 e2 e3
    exact ⟨{ fz 16 with lim := (n : Int) }, rfl, fun _ => rfl, hpos, ⟨rfl, rfl, rfl, rfl, List.replicate 8 0, rfl, rfl⟩, _, rds_16 h hpos (by rw [hz]; rfl) n _ e1 e2 e3, r2, pad_std n, _, r1, rfl⟩
  · obtain ⟨r1, r2⟩ := hb 9 rfl
    exact ⟨{ fz 26 with pt := bc (sub l 1 8) }, rfl, (fun e => absurd e (by decide)), hpos, ⟨rfl, rfl, rfl, rfl, sub l 1 8, sub_length l 1 8 (by omega), rfl⟩, 9, rds_26 h (by omega) (by rw [hz]; rfl), r2, pad_std n, _, r1, rfl⟩
  · obtain ⟨r1, r2⟩ := hb 1 rfl
    exact ⟨fz 30, rfl, (fun e => absurd e (by decide)), hpos, fz_std 30, 1, rds_one h 30 (.inr rfl) hpos (by rw [hz]; rfl), r2, pad_std n, _, r1, rfl⟩
  · obtain ⟨r1, r2⟩ := hb (1 + (encv (n : Int)).length) (by simp [tail5]; omega)
    obtain ⟨e1, e2, e3⟩ := v_num (UInt8.ofNat 25) n hn (List.replicate n 0)
    have el : l = UInt8.ofNat 25 :: (encv (n : Int) ++ List.replicate n 0) := by rw [hl]; simp [tail5]
    rw [← el] at e1 e2 e3
    exact ⟨{ fz 25 with seq := (n : Int) }, rfl, (fun e => absurd e (by decide)), hpos, ⟨rfl, rfl, rfl, rfl, List.replicate 8 0, rfl, rfl⟩, _, rds_25 h hpos (by rw [hz]; rfl) n _ e1 e2 e3, r2, pad_std n, _, r1, rfl⟩
/-- What the law puts. -/
def fput (k n : Nat) : Fr := { fz k with lim := (n : Int), seq := (n : Int) }
theorem put_five (k n : Nat) (hk : k = 1 ∨ k = 16 ∨ k = 26 ∨ k = 30 ∨ k = 25) (h1 : 1 ≤ n) (hn : n ≤ 1024) (w : World) (ht : Tb w) :
    Calls Tryd.prog 5 #[.agg (fput k n).cells.toArray] w fun e w' => ∃ o c, e = .returned (.tuple #[.slice o (UInt8.ofNat k :: tail5 k n).length c, .int .i64 0]) ∧ By w.heap.size w' (.slice o (UInt8.ofNat k :: tail5 k n).length c) (UInt8.ofNat k :: tail5 k n) ∧ Below w.heap.size w w' := by
  have hstd : (fput k n).std := ⟨rfl, rfl, rfl, rfl, List.replicate 8 0, rfl, rfl⟩
  have hkk : encv (k : Int) = [UInt8.ofNat k] := by rw [encv_at k (by omega), if_pos (by omega)]
  have hb : bads [(n : Int)] = false := by
    simp only [bads, List.any_cons, List.any_nil, Bool.or_false]
    unfold badv vaE
    rw [decide_eq_false]
    simp
    omega
  have he : encs [(n : Int)] = encv (n : Int) := by simp [encs]
  have key : ∀ Y, (∀ p B F X W, WS W p B F X false (fput k n) → X.length ≤ 1024 → Calls Tryd.prog 12 #[.iface 52 (.pointer (some ⟨p, 0, none⟩)), .int .i64 k, .pointer (some ⟨F, 0, none⟩)] W fun e w' => e = .returned (.tuple #[]) ∧ WS w' p B F (X ++ Y) false (fput k n) ∧ Gr p B W w') → tail5 k n = Y → Calls Tryd.prog 5 #[.agg (fput k n).cells.toArray] w fun e w' => ∃ o c, e = .returned (.tuple #[.slice o (UInt8.ofNat k :: tail5 k n).length c, .int .i64 0]) ∧ By w.heap.size w' (.slice o (UInt8.ofNat k :: tail5 k n).length c) (UInt8.ofNat k :: tail5 k n) ∧ Below w.heap.size w w' := by
    intro Y hY e
    have := put_c (fput k n) k w ht hstd rfl (by omega) (by omega) (by omega) Y hY
    rw [hkk, List.singleton_append] at this
    rw [e]
    exact this
  rcases hk with rfl | rfl | rfl | rfl | rfl
  · exact key [] (fun p B F X W hw _ => by have := pwalk_1 p B F X false _ W hw; simpa using this) rfl
  · refine key (encv (n : Int)) (fun p B F X W hw hX => ?_) rfl
    have := pwalk_16 p B F X false _ W hw hX
    rw [show (fput 16 n).lim = (n : Int) from rfl, he, hb] at this
    exact this
  · exact key (List.replicate 8 0) (fun p B F X W hw hX => pwalk_26 p B F X false _ W hw hX rfl (List.replicate 8 0) rfl rfl) rfl
  · exact key [] (fun p B F X W hw _ => by have := pwalk_30 p B F X false _ W hw; simpa using this) rfl
  · refine key (encv (n : Int)) (fun p B F X W hw hX => ?_) rfl
    have := pwalk_25 p B F X false _ W hw hX
    rw [show (fput 25 n).seq = (n : Int) from rfl, he, hb] at this
    exact this
end Go.Proofs.YtfejhlfcabbkcaaDoor
