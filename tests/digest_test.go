package tests

import (
	"crypto/hmac"
	"crypto/sha256"
	"encoding/hex"
	"math"
	"strings"
	"testing"

	"loop.example/g00387/impl"
)

// sample returns size bytes with all values among them and without a period that divides a block.
func sample(size int) string {
	buf := make([]byte, size)
	for i := range buf {
		buf[i] = byte(i*7 + i/251)
	}
	return string(buf)
}

// edgeSizes returns sizes around those at which the padding or the block ends.
func edgeSizes() []int {
	list := []int{0, 1, 2, 3, 31, 32, 33}
	for block := 64; block <= 320; block += 64 {
		list = append(list, block-10, block-9, block-8, block-7, block-1, block, block+1)
	}
	return append(list, 1000, 8191, 8192, 10000)
}

func referenceDigest(text string) string {
	sum := sha256.Sum256([]byte(text))
	return string(sum[:])
}

func referenceMac(key string, text string) string {
	h := hmac.New(sha256.New, []byte(key))
	h.Write([]byte(text))
	return string(h.Sum(nil))
}

func checkBytes(t *testing.T, what string, got string, want string) {
	t.Helper()
	if got != want {
		t.Errorf("%s is %x, want %x", what, got, want)
	}
}

func checkHex(t *testing.T, what string, got string, want string) {
	t.Helper()
	if hex.EncodeToString([]byte(got)) != want {
		t.Errorf("%s is %x, want %s", what, got, want)
	}
}

func TestDigestValues(t *testing.T) {
	cases := []struct{ text, want string }{
		{"abc", "ba7816bf8f01cfea414140de5dae2223b00361a396177a9cb410ff61f20015ad"},
		{"", "e3b0c44298fc1c149afbf4c8996fb92427ae41e4649b934ca495991b7852b855"},
		{"abcdbcdecdefdefgefghfghighijhijkijkljklmklmnlmnomnopnopq",
			"248d6a61d20638b8e5c026930c3e6039a33ce45964ff2167f6ecedd419db06c1"},
		{"abcdefghbcdefghicdefghijdefghijkefghijklfghijklmghijklmnhijklmnoijklmnopjklmnopqklmnopqrlmnopqrsmnopqrstnopqrstu",
			"cf5b16a778af8380036ce59e7b0492370b249b11e8f07a51afac45037afee9d1"},
	}
	for _, c := range cases {
		checkHex(t, "Digest of "+c.text, impl.Digest(c.text), c.want)
	}
}

func TestDigestOfEverySmallSize(t *testing.T) {
	for size := range 400 {
		text := sample(size)
		if got, want := impl.Digest(text), referenceDigest(text); got != want {
			t.Errorf("Digest of %d bytes is %x, want %x", size, got, want)
		}
	}
}

func TestDigestOfEveryByte(t *testing.T) {
	for b := range 256 {
		for _, size := range []int{1, 64} {
			text := strings.Repeat(string([]byte{byte(b)}), size)
			if got, want := impl.Digest(text), referenceDigest(text); got != want {
				t.Errorf("Digest of %d times byte %d is %x, want %x", size, b, got, want)
			}
		}
	}
}

func TestDigestLimit(t *testing.T) {
	for size := impl.MaxBytes - 70; size <= impl.MaxBytes; size++ {
		text := sample(size)
		if got, want := impl.Digest(text), referenceDigest(text); got != want {
			t.Errorf("Digest of %d bytes is %x, want %x", size, got, want)
		}
	}
	for _, size := range []int{impl.MaxBytes + 1, impl.MaxBytes + 64, 2 * impl.MaxBytes} {
		checkBytes(t, "Digest of a string that is too long", impl.Digest(sample(size)), "")
	}
}

// The values of RFC 4231.
func TestMacValues(t *testing.T) {
	longKey := strings.Repeat("\xaa", 131)
	cases := []struct{ key, text, want string }{
		{strings.Repeat("\x0b", 20), "Hi There", "b0344c61d8db38535ca8afceaf0bf12b881dc200c9833da726e9376c2e32cff7"},
		{"Jefe", "what do ya want for nothing?", "5bdcc146bf60754e6a042426089575c75a003f089d2739839dec58b964ec3843"},
		{strings.Repeat("\xaa", 20), strings.Repeat("\xdd", 50), "773ea91e36800e46854db8ebd09181a72959098b3ef8c122d9635514ced565fe"},
		{longKey, "Test Using Larger Than Block-Size Key - Hash Key First", "60e431591ee0b67f0d8a26aacbf5b77f8e0bc6213728c5140546040f0ee37f54"},
		{"", "", "b613679a0814d9ec772f95d778c35fc5ff1697c493715653c6c712144292c5ad"},
	}
	for _, c := range cases {
		checkHex(t, "Mac of "+c.text, impl.Mac(c.key, c.text), c.want)
	}
}

// composedMac builds the MAC from digests, as the document describes it.
func composedMac(key string, text string) string {
	if len(key) > 64 {
		key = impl.Digest(key)
	}
	outer := []byte(key + strings.Repeat("\x00", 64-len(key)))
	inner := []byte(string(outer))
	for i := range outer {
		outer[i] ^= 92
		inner[i] ^= 54
	}
	return impl.Digest(string(outer) + impl.Digest(string(inner)+text))
}

// Promise 3.
func TestMacIsComposedOfDigests(t *testing.T) {
	keys := []int{0, 1, 32, 63, 64, 65, 66, 128, 1000, impl.MaxBytes - 1, impl.MaxBytes}
	texts := append(edgeSizes(), impl.MaxBytes-65, impl.MaxBytes-64)
	for _, k := range keys {
		for _, n := range texts {
			key, text := "k"+sample(k), "t"+sample(n)
			key, text = key[:k], text[:n]
			got := impl.Mac(key, text)
			if len(got) != 32 || got != composedMac(key, text) || got != referenceMac(key, text) {
				t.Errorf("Mac of a key of %d bytes and a text of %d bytes is %x, want %x", k, n, got, composedMac(key, text))
			}
		}
	}
}

// Promise 3, for the texts that are too long, behind the padded key, for Digest.
func TestMacOfTheLongestTexts(t *testing.T) {
	for _, k := range []int{0, 1, 64, 65, impl.MaxBytes} {
		for size := impl.MaxBytes - 66; size <= impl.MaxBytes; size++ {
			key, text := sample(k), sample(size)
			if got, want := impl.Mac(key, text), referenceMac(key, text); got != want {
				t.Errorf("Mac of a key of %d bytes and a text of %d bytes is %x, want %x", k, size, got, want)
			}
		}
	}
}

func TestMacKeyOfOneBlock(t *testing.T) {
	full, over := sample(64), sample(65)
	checkBytes(t, "Mac with a key of 64 bytes", impl.Mac(full, "text"), referenceMac(full, "text"))
	checkBytes(t, "Mac with a key of 65 bytes", impl.Mac(over, "text"), impl.Mac(impl.Digest(over), "text"))
	if impl.Mac(full, "text") == impl.Mac(impl.Digest(full), "text") {
		t.Error("a key of 64 bytes is used as its digest")
	}
	checkBytes(t, "Mac with a shorter key", impl.Mac("k", "text"), impl.Mac("k"+strings.Repeat("\x00", 63), "text"))
}

func TestMacLimits(t *testing.T) {
	most, over := sample(impl.MaxBytes), sample(impl.MaxBytes+1)
	checkBytes(t, "Mac of the longest key and text", impl.Mac(most, most), referenceMac(most, most))
	for _, other := range []string{"", "x", most, over} {
		checkBytes(t, "Mac of a key that is too long", impl.Mac(over, other), "")
		checkBytes(t, "Mac of a text that is too long", impl.Mac(other, over), "")
	}
}

func stretched(pass string, rounds int) string {
	last := referenceMac(pass, "salt")
	for range rounds - 1 {
		last = referenceMac(pass, last)
	}
	return last
}

func TestStretch(t *testing.T) {
	checkBytes(t, "Stretch(p, 1)", impl.Stretch("p", 1), impl.Mac("p", "salt"))
	checkBytes(t, "Stretch(p, 2)", impl.Stretch("p", 2), impl.Mac("p", impl.Mac("p", "salt")))
	for _, size := range []int{0, 1, 63, 64, 65, 200, impl.MaxBytes} {
		pass := sample(size)
		for _, rounds := range []int{1, 2, 3, 99, 100} {
			if got, want := impl.Stretch(pass, int64(rounds)), stretched(pass, rounds); got != want {
				t.Errorf("Stretch of %d bytes in %d rounds is %x, want %x", size, rounds, got, want)
			}
		}
	}
}

func TestStretchLimits(t *testing.T) {
	for _, pass := range []string{"", "p", sample(impl.MaxBytes), sample(impl.MaxBytes + 1)} {
		for _, rounds := range []int64{0, -1, 101, 102, math.MinInt64, math.MaxInt64, 1<<32 + 1} {
			if got := impl.Stretch(pass, rounds); got != "" {
				t.Errorf("Stretch of %d bytes in %d rounds is %x, want nothing", len(pass), rounds, got)
			}
		}
	}
	for _, rounds := range []int64{1, 2, 100} {
		checkBytes(t, "Stretch of a pass that is too long", impl.Stretch(sample(impl.MaxBytes+1), rounds), "")
	}
}
