/- PackPuts: for every input the program's bytes of numbers and of bytes, and its hashes, are the document's. No condition. -/
import Derived.Test.YtgjomhcnncdfkaaPackHash
import Derived.Test.YtgjomhcnncdfkaaRegion
namespace Go.Proofs.Ytgjomhcnncdfkaa
open Go.RowKit

theorem own_bytes {w : World} {base n c : Nat} {A : Option Addr} {l : List UInt8} (h : w.ownsRow base 5 1 (.slice A n c) n (bv l)) : Bytes w w.heap.size A n l := Bytes.of_own h

theorem string_conv (w : World) {B n c : Nat} {A : Option Addr} {l : List UInt8} (h : Bytes w B A n l) : (convert 22 9 (.slice A n c)).run Try.prog w = .ok (.string ⟨l.toArray⟩) w :=
  run_string_rd w Try.underlying22 Try.underlying5 Try.underlying9 h

/-- What is put behind nothing, as a string. -/
theorem putInt_nil (x : Int) (l : List UInt8) (hx : Pk.enc (Pk.zig x) = l) (w : World) (h1 : -9223372036854775808 ≤ x) (h2 : x ≤ 9223372036854775807) :
    Calls Try.prog 9 #[.slice none 0 0, .int .i64 x] w fun e w' => ∃ A n c, e = .returned (.slice A n c) ∧ Below w.heap.size w w' ∧
      (convert 22 9 (.slice A n c)).run Try.prog w' = .ok (.string ⟨l.toArray⟩) w' := by
  refine (putInt_any none 0 0 [] x w h1 h2 Bytes.nil (by omega)).mono ?_
  rintro e w' ⟨A, n, c, rfl, -, hown, hb⟩
  refine ⟨A, n, c, rfl, hb, ?_⟩
  have := string_conv w' (c := c) (own_bytes hown)
  rw [List.nil_append, hx] at this
  exact this

theorem hash_nil (w : World) : Calls Try.prog 13 #[.slice none 0 0] w fun e w' => e = .returned (.int .u64 14695981039346656037) ∧ w = w' :=
  (hash_any none 0 0 [] w 0 Bytes.nil (by omega)).mono fun e w' h => by
    rw [show ((Pk.hash [] : Nat) : Int) = 14695981039346656037 by simp [Pk.hash, Pk.hfrom, Pk.hseed]] at h
    exact h

theorem sane_any (w : World) : Calls Try.prog 8 #[] w fun e w' => e = .returned (.bool true) ∧ Below w.heap.size w w' := by
  have e0 : Pk.enc (Pk.zig 0) = [0] := by rw [show Pk.zig 0 = 0 by decide, Pk.enc_small (by omega)]; rfl
  have e1 : Pk.enc (Pk.zig (-1)) = [1] := by rw [show Pk.zig (-1) = 1 by decide, Pk.enc_small (by omega)]; rfl
  have e2 : Pk.enc (Pk.zig 64) = [128, 1] := by rw [show Pk.zig 64 = 128 by decide, Pk.enc_big (by omega), Pk.enc_small (by omega)]; rfl
  have E0 := hide e0
  have E1 := hide e1
  have E2 := hide e2
  clear e0 e1 e2
  go_enter Try.func8, Try.ntmps8
  go_wp2_with fail
  refine (putInt_nil 0 _ E0.out _ (by omega) (by omega)).mono ?_
  rintro e w1 ⟨A1, n1, c1, rfl, hb1, hs1⟩
  go_wp2_with fail
  refine (putInt_nil (-1) _ E1.out _ (by omega) (by omega)).mono ?_
  rintro e w2 ⟨A2, n2, c2, rfl, hb2, hs2⟩
  go_wp2_with fail
  refine (putInt_nil 64 _ E2.out _ (by omega) (by omega)).mono ?_
  rintro e w3 ⟨A3, n3, c3, rfl, hb3, hs3⟩
  go_wp2_with fail
  refine (hash_nil _).mono ?_
  rintro e w4 ⟨rfl, rfl⟩
  go_wp2_with fail
  go_ret
  exact ⟨rfl, (hb1.trans (hb2.mono hb1.size)).trans (hb3.mono (hb1.trans (hb2.mono hb1.size)).size)⟩

/-- The slice's bytes as a string, in every later world. -/
def StrOf (w : World) (A : Option Addr) (n c : Nat) (l : List UInt8) : Prop := ∀ w', Later w w' → (convert 22 9 (.slice A n c)).run Try.prog w' = .ok (.string ⟨l.toArray⟩) w'
theorem StrOf.of {w : World} {A : Option Addr} {n c : Nat} {l : List UInt8} (h : Bytes w w.heap.size A n l) : StrOf w A n c l := fun _ hl => string_conv _ (h.below hl)

theorem putInt_later (A : Option Addr) (n c : Nat) (l : List UInt8) (x : Int) (w : World) (h1 : -9223372036854775808 ≤ x) (h2 : x ≤ 9223372036854775807) (B : Nat) (hr : Bytes w B A n l) (hB : B ≤ w.heap.size) (hl : n ≤ 1048576) :
    Calls Try.prog 9 #[.slice A n c, .int .i64 x] w fun e w' => ∃ A' n' c', e = .returned (.slice A' n' c') ∧ StrOf w' A' n' c' (l ++ Pk.enc (Pk.zig x)) ∧ Later w w' := by
  refine (putInt_any A n c l x w h1 h2 (hr.mono hB) hl).mono ?_
  rintro e w' ⟨A', n', c', rfl, -, hown, hb⟩
  exact ⟨A', n', c', rfl, StrOf.of (own_bytes hown), hb⟩
theorem refPutInt_later (A : Option Addr) (n c : Nat) (l : List UInt8) (x : Int) (w : World) (h1 : -9223372036854775808 ≤ x) (h2 : x ≤ 9223372036854775807) (B : Nat) (hr : Bytes w B A n l) (hB : B ≤ w.heap.size) (hl : n ≤ 1048576) :
    Calls Try.prog 10 #[.slice A n c, .int .i64 x] w fun e w' => ∃ A' n' c', e = .returned (.slice A' n' c') ∧ StrOf w' A' n' c' (l ++ Pk.enc (Pk.zig x)) ∧ Later w w' := by
  refine (refPutInt_any A n c l x w h1 h2 (hr.mono hB) hl).mono ?_
  rintro e w' ⟨A', n', c', rfl, -, hown, hb⟩
  exact ⟨A', n', c', rfl, StrOf.of (own_bytes hown), hb⟩
theorem putBytes_later (A D : Option Addr) (n c m d : Nat) (l dl : List UInt8) (w : World) (B : Nat) (hr : Bytes w B A n l) (hd : Bytes w B D m dl) (hB : B ≤ w.heap.size) (hl : n ≤ 1048576) (hm : m ≤ 1048576) :
    Calls Try.prog 11 #[.slice A n c, .slice D m d] w fun e w' => ∃ A' n' c', e = .returned (.slice A' n' c') ∧ StrOf w' A' n' c' (l ++ Pk.enc (Pk.zig m) ++ dl) ∧ Later w w' := by
  refine (putBytes_any A D n c m d l dl w (hr.mono hB) (hd.mono hB) hl hm).mono ?_
  rintro e w' ⟨A', n', c', rfl, -, hown, hb⟩
  exact ⟨A', n', c', rfl, StrOf.of (own_bytes hown), hb⟩
theorem refPutBytes_later (A D : Option Addr) (n c m d : Nat) (l dl : List UInt8) (w : World) (B : Nat) (hr : Bytes w B A n l) (hd : Bytes w B D m dl) (hB : B ≤ w.heap.size) (hl : n ≤ 1048576) (hm : m ≤ 1048576) :
    Calls Try.prog 12 #[.slice A n c, .slice D m d] w fun e w' => ∃ A' n' c', e = .returned (.slice A' n' c') ∧ StrOf w' A' n' c' (l ++ Pk.enc (Pk.zig m) ++ dl) ∧ Later w w' := by
  refine (refPutBytes_any A D n c m d l dl w (hr.mono hB) (hd.mono hB) hl hm).mono ?_
  rintro e w' ⟨A', n', c', rfl, -, hown, hb⟩
  exact ⟨A', n', c', rfl, StrOf.of (own_bytes hown), hb⟩

set_option maxHeartbeats 1000000 in
theorem packPuts_any (A D : Option Addr) (n c m d : Nat) (l dl : List UInt8) (x : Int) (w : World) (h1 : -9223372036854775808 ≤ x) (h2 : x ≤ 9223372036854775807) (hr : Bytes w w.heap.size A n l) (hd : Bytes w w.heap.size D m dl) (hn : n ≤ 9223372036854775807) (hm : m ≤ 9223372036854775807) :
    Calls Try.prog 3 #[.slice A n c, .slice D m d, .int .i64 x] w fun e w' => e = .returned (.bool true) ∧ Below w.heap.size w w' := by
  go_enter Try.func3, Try.ntmps3
  go_wp2_with fail
  refine (sane_any _).mono ?_
  rintro e w1 ⟨rfl, hb1⟩
  rcases (show 300 < n ∨ (n ≤ 300 ∧ 300 < m) ∨ (n ≤ 300 ∧ m ≤ 300) by omega) with h | ⟨h, h'⟩ | ⟨h, h'⟩
  · have hd1 : decide ((300 : Int) < (n : Int)) = true := by simp; omega
    go_wp2_with fail
    go_ret
    exact ⟨rfl, hb1⟩
  · have hd1 : decide ((300 : Int) < (n : Int)) = false := by simp; omega
    have hd2 : decide ((300 : Int) < (m : Int)) = true := by simp; omega
    go_wp2_with fail
    go_ret
    exact ⟨rfl, hb1⟩
  · have hd1 : decide ((300 : Int) < (n : Int)) = false := by simp; omega
    have hd2 : decide ((300 : Int) < (m : Int)) = false := by simp; omega
    go_wp2_with fail
    refine region_G (by kernel_rfl) ?_
    refine take_ 0 rfl (by kernel_rfl) (fun _ _ _ h => h) (by rfl) (by intro w' hg; go_simp; try with_reducible rfl) ?_
    refine take_ 1 rfl (by kernel_rfl) (fun _ _ _ h => h) (by rfl) (by intro w' hg; go_simp; try with_reducible rfl) ?_
    refine take_ 4 rfl (by kernel_rfl) (fun _ _ _ h => h) (by rfl) (by intro w' hg; go_simp; try with_reducible rfl) ?_
    refine take_ 5 rfl (by kernel_rfl) (fun _ _ _ h => h) (by rfl) (by intro w' hg; go_simp; try with_reducible rfl) ?_
    refine only_ 2 rfl (by kernel_rfl) (by rfl) ?_
    intro K hK
    go_simp
    refine (putInt_later A n c l x _ h1 h2 w.heap.size (hr.below hb1).drew hb1.size (by omega)).mono ?_
    rintro e u2 ⟨A2, n2, c2, rfl, hs2, hl2⟩
    refine hK _ _ hl2 ?_
    clear hK K
    refine take_ 3 rfl (by kernel_rfl) (fun _ _ _ h => h) (by rfl) (by intro w' hg; have hc := hs2 _ hg; go_simp; try with_reducible rfl) ?_
    refine only_ 6 rfl (by kernel_rfl) (by rfl) ?_
    intro K hK
    go_simp
    refine (refPutInt_later A n c l x _ h1 h2 w.heap.size ((hr.below hb1).drew.belowLe hl2 hb1.size) (Nat.le_trans hb1.size hl2.size) (by omega)).mono ?_
    rintro e u3 ⟨A3, n3, c3, rfl, hs3, hl3⟩
    refine hK _ _ hl3 ?_
    clear hK K
    refine take_ 7 rfl (by kernel_rfl) (fun _ _ _ h => h) (by rfl) (by intro w' hg; have hc := hs3 _ hg; go_simp; try with_reducible rfl) ?_
    refine take_ 8 rfl (by kernel_rfl) (fun _ _ _ h => h) (by rfl) (by intro w' hg; go_simp; try with_reducible rfl) ?_
    refine take_ 9 rfl (by kernel_rfl) (fun _ _ _ h => h) (by rfl) (by intro w' hg; go_simp; try with_reducible rfl) ?_
    refine take_ 10 rfl (by kernel_rfl) (fun _ _ _ h => h) (by kernel_rfl) (by intro w' hg; go_simp; try with_reducible rfl) ?_
    refine take_ 11 rfl (by kernel_rfl) (fun _ _ _ h => h) (by kernel_rfl) (by intro w' hg; go_simp; try with_reducible rfl) ?_
    refine take_ 14 rfl (by kernel_rfl) (fun _ _ _ h => h) (by kernel_rfl) (by intro w' hg; go_simp; try with_reducible rfl) ?_
    refine take_ 15 rfl (by kernel_rfl) (fun _ _ _ h => h) (by kernel_rfl) (by intro w' hg; go_simp; try with_reducible rfl) ?_
    refine only_ 12 rfl (by kernel_rfl) (by kernel_rfl) ?_
    intro K hK
    go_simp
    refine (putBytes_later A D n c m d l dl _ w.heap.size ((hr.below hb1).drew.belowLe (hl2.trans hl3) hb1.size) ((hd.below hb1).drew.belowLe (hl2.trans hl3) hb1.size) (Nat.le_trans hb1.size (hl2.trans hl3).size) (by omega) (by omega)).mono ?_
    rintro e u4 ⟨A4, n4, c4, rfl, hs4, hl4⟩
    refine hK _ _ hl4 ?_
    clear hK K
    refine take_ 13 rfl (by kernel_rfl) (fun _ _ _ h => h) (by kernel_rfl) (by intro w' hg; have hc := hs4 _ hg; go_simp; try with_reducible rfl) ?_
    refine only_ 16 rfl (by kernel_rfl) (by kernel_rfl) ?_
    intro K hK
    go_simp
    refine (refPutBytes_later A D n c m d l dl _ w.heap.size ((hr.below hb1).drew.belowLe ((hl2.trans hl3).trans hl4) hb1.size) ((hd.below hb1).drew.belowLe ((hl2.trans hl3).trans hl4) hb1.size) (Nat.le_trans hb1.size ((hl2.trans hl3).trans hl4).size) (by omega) (by omega)).mono ?_
    rintro e u5 ⟨A5, n5, c5, rfl, hs5, hl5⟩
    refine hK _ _ hl5 ?_
    clear hK K
    refine take_ 17 rfl (by kernel_rfl) (fun _ _ _ h => h) (by kernel_rfl) (by intro w' hg; have hc := hs5 _ hg; go_simp; try with_reducible rfl) ?_
    refine take_ 18 rfl (by kernel_rfl) (fun _ _ _ h => h) (by kernel_rfl) (by intro w' hg; go_simp; try with_reducible rfl) ?_
    refine take_ 19 rfl (by kernel_rfl) (fun _ _ _ h => h) (by rfl) (by intro w' hg; go_simp; try with_reducible rfl) ?_
    refine take_ 20 rfl (by kernel_rfl) (fun _ _ _ h => h) (by rfl) (by intro w' hg; go_simp; try with_reducible rfl) ?_
    refine take_ 21 rfl (by kernel_rfl) (fun _ _ _ h => h) (by kernel_rfl) (by intro w' hg; go_simp; try with_reducible rfl) ?_
    refine take_ 23 rfl (by kernel_rfl) (fun _ _ _ h => h) (by kernel_rfl) (by intro w' hg; go_simp; try with_reducible rfl) ?_
    refine only_ 22 rfl (by kernel_rfl) (by kernel_rfl) ?_
    intro K hK
    go_simp
    refine (hash_any A n c l _ w.heap.size ((hr.below hb1).drew.belowLe (((hl2.trans hl3).trans hl4).trans hl5) hb1.size) (by omega)).mono ?_
    rintro e u6 ⟨rfl, rfl⟩
    refine hK _ _ (Later.refl _) ?_
    clear hK K
    refine only_ 24 rfl (by kernel_rfl) (by kernel_rfl) ?_
    intro K hK
    go_simp
    refine (refHash_any A n c l _ w.heap.size ((hr.below hb1).drew.belowLe (((hl2.trans hl3).trans hl4).trans hl5) hb1.size) (by omega)).mono ?_
    rintro e u6 ⟨rfl, rfl⟩
    refine hK _ _ (Later.refl _) ?_
    clear hK K
    refine take_ 25 rfl (by kernel_rfl) (fun _ _ _ h => h) (by kernel_rfl) (by intro w' hg; go_simp; try with_reducible rfl) ?_
    refine take_ 26 rfl (by kernel_rfl) (fun _ _ _ h => h) (by rfl) (by intro w' hg; go_simp; try with_reducible rfl) ?_
    refine take_ 27 rfl (by kernel_rfl) (fun _ _ _ h => h) (by rfl) (by intro w' hg; go_simp; try with_reducible rfl) ?_
    refine done_ (by kernel_rfl) ?_
    go_wp2_with fail
    go_ret
    exact ⟨rfl, hb1.trans ((Below.refl _ _).drew.trans ((((hl2.trans hl3).trans hl4).trans hl5).mono hb1.size))⟩
end Go.Proofs.Ytgjomhcnncdfkaa
