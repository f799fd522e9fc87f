/-
  SHA-256, plainly: words, schedule, rounds, blocks.
-/
import Derived.Laws.BitsAllLaws
namespace Go.Proofs.YtnoicjpmfchhiaaDoor

/-- A word turned towards its low end. -/
def rotr (x n : UInt32) : UInt32 := (x <<< (32 - n)) ||| (x >>> n)
def sg0 (x : UInt32) : UInt32 := rotr x 7 ^^^ rotr x 18 ^^^ (x >>> 3)
def sg1 (x : UInt32) : UInt32 := rotr x 17 ^^^ rotr x 19 ^^^ (x >>> 10)
def bg0 (x : UInt32) : UInt32 := rotr x 2 ^^^ rotr x 13 ^^^ rotr x 22
def bg1 (x : UInt32) : UInt32 := rotr x 6 ^^^ rotr x 11 ^^^ rotr x 25
def cho (e f g : UInt32) : UInt32 := (e &&& f) ^^^ (~~~e &&& g)
def maj (a b c : UInt32) : UInt32 := (a &&& b) ^^^ (a &&& c) ^^^ (b &&& c)

/-- Eight words. -/
structure W8 where
  a : UInt32
  b : UInt32
  c : UInt32
  d : UInt32
  e : UInt32
  f : UInt32
  g : UInt32
  h : UInt32

/-- A round, with its constant and its word. -/
def rnd (s : W8) (k w : UInt32) : W8 :=
  let o := s.h + bg1 s.e + cho s.e s.f s.g + (k + w)
  ⟨o + bg0 s.a + maj s.a s.b s.c, s.a, s.b, s.c, s.d + o, s.e, s.f, s.g⟩
def rnds : List UInt32 → List UInt32 → W8 → W8
  | k :: ks, w :: ws, s => rnds ks ws (rnd s k w)
  | _, _, s => s
def W8.add (s t : W8) : W8 := ⟨s.a + t.a, s.b + t.b, s.c + t.c, s.d + t.d, s.e + t.e, s.f + t.f, s.g + t.g, s.h + t.h⟩

/-- The next word behind some. -/
def nextW (l : List UInt32) : UInt32 := l.getD (l.length - 16) 0 + l.getD (l.length - 7) 0 + sg0 (l.getD (l.length - 15) 0) + sg1 (l.getD (l.length - 2) 0)
def extW : Nat → List UInt32 → List UInt32
  | 0, l => l
  | n + 1, l => extW n (l ++ [nextW l])
def be4 (a b c d : UInt8) : UInt32 := (((((a.toUInt32 <<< 8) ||| b.toUInt32) <<< 8) ||| c.toUInt32) <<< 8) ||| d.toUInt32
/-- Bytes by fours. -/
def words4 : List UInt8 → List UInt32
  | a :: b :: c :: d :: r => be4 a b c d :: words4 r
  | _ => []

def hTab : W8 := ⟨0x6a09e667, 0xbb67ae85, 0x3c6ef372, 0xa54ff53a, 0x510e527f, 0x9b05688c, 0x1f83d9ab, 0x5be0cd19⟩
def kTab : List UInt32 := [
  0x428a2f98, 0x71374491, 0xb5c0fbcf, 0xe9b5dba5, 0x3956c25b, 0x59f111f1, 0x923f82a4, 0xab1c5ed5,
  0xd807aa98, 0x12835b01, 0x243185be, 0x550c7dc3, 0x72be5d74, 0x80deb1fe, 0x9bdc06a7, 0xc19bf174,
  0xe49b69c1, 0xefbe4786, 0x0fc19dc6, 0x240ca1cc, 0x2de92c6f, 0x4a7484aa, 0x5cb0a9dc, 0x76f988da,
  0x983e5152, 0xa831c66d, 0xb00327c8, 0xbf597fc7, 0xc6e00bf3, 0xd5a79147, 0x06ca6351, 0x14292967,
  0x27b70a85, 0x2e1b2138, 0x4d2c6dfc, 0x53380d13, 0x650a7354, 0x766a0abb, 0x81c2c92e, 0x92722c85,
  0xa2bfe8a1, 0xa81a664b, 0xc24b8b70, 0xc76c51a3, 0xd192e819, 0xd6990624, 0xf40e3585, 0x106aa070,
  0x19a4c116, 0x1e376c08, 0x2748774c, 0x34b0bcb5, 0x391c0cb3, 0x4ed8aa4a, 0x5b9cca4f, 0x682e6ff3,
  0x748f82ee, 0x78a5636f, 0x84c87814, 0x8cc70208, 0x90befffa, 0xa4506ceb, 0xbef9a3f7, 0xc67178f2]
/-- A block's 64 bytes mixed into eight words. -/
def mixB (s : W8) (b : List UInt8) : W8 := s.add (rnds kTab (extW 48 (words4 b)) s)
/-- All whole blocks of some bytes. -/
def mixAll (s : W8) (b : List UInt8) : W8 :=
  if _h : 64 ≤ b.length then mixAll (mixB s (b.take 64)) (b.drop 64) else s
  termination_by b.length
  decreasing_by simp; omega
def restB (b : List UInt8) : List UInt8 := b.drop (b.length / 64 * 64)
def by4 (x : UInt32) : List UInt8 := [(x >>> 24).toUInt8, (x >>> 16).toUInt8, (x >>> 8).toUInt8, x.toUInt8]
/-- What is laid behind n bytes. -/
def padN (n : Nat) : List UInt8 := 128 :: (List.replicate ((119 - n % 64) % 64) 0 ++ (by4 (UInt32.ofNat (n * 8 / 4294967296)) ++ by4 (UInt32.ofNat (n * 8))))
def W8.bytes (s : W8) : List UInt8 := by4 s.a ++ by4 s.b ++ by4 s.c ++ by4 s.d ++ by4 s.e ++ by4 s.f ++ by4 s.g ++ by4 s.h
/-- SHA-256. -/
def sha (m : List UInt8) : List UInt8 := (mixAll hTab (m ++ padN m.length)).bytes

/-- With fuel, for reckoning. -/
def mixF : Nat → W8 → List UInt8 → W8
  | 0, s, _ => s
  | n + 1, s, b => if 64 ≤ b.length then mixF n (mixB s (b.take 64)) (b.drop 64) else s
theorem mixF_eq (n : Nat) : ∀ (s : W8) (b : List UInt8), b.length < 64 * n → mixF n s b = mixAll s b := by
  induction n with
  | zero => intro s b h; omega
  | succ n ih =>
    intro s b h
    rw [mixF, mixAll]
    by_cases h2 : 64 ≤ b.length
    · rw [if_pos h2, dif_pos h2, ih _ _ (by simp; omega)]
    · rw [if_neg h2, dif_neg h2]
theorem sha_x : (sha [1, 0x78]).take 4 = [0x23, 0xc8, 0x6a, 0x8a] := by
  unfold sha
  rw [← mixF_eq 2 _ _ (by decide)]
  decide +kernel
end Go.Proofs.YtnoicjpmfchhiaaDoor
