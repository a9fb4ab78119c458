package digest

import (
	"crypto/md5"
	"crypto/sha1"
	"encoding/binary"
	"encoding/hex"
	"math"
	"math/rand"
	"slices"
	"strconv"
	"strings"
	"sync"
	"testing"

	"wharf/api"
)

func md5Of(s string) string {
	sum := md5.Sum([]byte(s))
	return string(sum[:])
}

func sha1Of(s string) string {
	sum := sha1.Sum([]byte(s))
	return string(sum[:])
}

// short makes long texts fit to be told.
func short(s string) string {
	if len(s) > 200 {
		return strconv.Quote(s[:100]) + ".. (" + strconv.Itoa(len(s)) + " bytes)"
	}
	return strconv.Quote(s)
}

// lookAt holds both digests of s against those of the library.
func lookAt(t *testing.T, s string) {
	t.Helper()
	if got, want := Md5(s), md5Of(s); got != want {
		t.Fatalf("Md5(%s): %x, not %x", short(s), got, want)
	}
	if got, want := Sha1(s), sha1Of(s); got != want {
		t.Fatalf("Sha1(%s): %x, not %x", short(s), got, want)
	}
}

func randomText(r *rand.Rand, n int) string {
	b := make([]byte, n)
	r.Read(b)
	return string(b)
}

// byteText is a text whose bytes are all others than those beside them.
func byteText(n int) string {
	b := make([]byte, n)
	for i := range b {
		b[i] = byte(i*7 + i>>8)
	}
	return string(b)
}

func all256() string {
	b := make([]byte, 256)
	for i := range b {
		b[i] = byte(i)
	}
	return string(b)
}

// fillingOf lays what stands behind a text of size bytes, byte by byte, by the words of P7.1.
func fillingOf(size int, count binary.ByteOrder) string {
	fill := []byte{0x80}
	for (size+len(fill))%64 != 56 {
		fill = append(fill, 0)
	}
	bits := make([]byte, 8)
	count.PutUint64(bits, 8*uint64(size))
	return string(append(fill, bits...))
}

// P7.1: the byte, the bytes 0, and the number of bits, also of texts too great to be laid here.
func TestFilling(t *testing.T) {
	sizes := []int{1<<13 - 1, 1 << 13, 1<<21 + 55, 1<<29 - 1, 1 << 29, 1<<29 + 56, 1 << 30, 1<<31 - 1, 0x12345678}
	for size := range 300 {
		sizes = append(sizes, size)
	}
	for _, size := range sizes {
		if got, want := leastFirst.filling(size), fillingOf(size, binary.LittleEndian); got != want {
			t.Fatalf("behind %d bytes, the least first: %x, not %x", size, got, want)
		}
		if got, want := greatestFirst.filling(size), fillingOf(size, binary.BigEndian); got != want {
			t.Fatalf("behind %d bytes, the greatest first: %x, not %x", size, got, want)
		}
	}
}

func TestFillingAtTheEdges(t *testing.T) {
	for _, c := range []struct{ size, fill int }{
		{0, 64}, {1, 63}, {54, 10}, {55, 9}, {56, 72}, {57, 71}, {63, 65}, {64, 64}, {119, 9}, {120, 72}, {128, 64},
	} {
		for _, o := range []order{leastFirst, greatestFirst} {
			if got := o.filling(c.size); len(got) != c.fill || (c.size+len(got))%64 != 0 {
				t.Fatalf("behind %d bytes: %d, not %d", c.size, len(got), c.fill)
			}
		}
	}
	if got := leastFirst.filling(55); got != "\x80\xb8\x01\x00\x00\x00\x00\x00\x00" {
		t.Fatalf("%x", got)
	}
	if got := greatestFirst.filling(55); got != "\x80\x00\x00\x00\x00\x00\x00\x01\xb8" {
		t.Fatalf("%x", got)
	}
}

// P7.1: 16 words of each 64 bytes.
func TestWords(t *testing.T) {
	text := byteText(256)
	for i := range 4 {
		least, greatest := leastFirst.words(text, i), greatestFirst.words(text, i)
		for j := range 16 {
			four := []byte(text[64*i+4*j:][:4])
			if want := binary.LittleEndian.Uint32(four); least[j] != want {
				t.Fatalf("chunk %d, word %d, the least first: %x, not %x", i, j, least[j], want)
			}
			if want := binary.BigEndian.Uint32(four); greatest[j] != want {
				t.Fatalf("chunk %d, word %d, the greatest first: %x, not %x", i, j, greatest[j], want)
			}
		}
	}
}

// P7.1 to P7.3: every length around the ends of chunks, whatever the bytes are.
func TestLengths(t *testing.T) {
	r := rand.New(rand.NewSource(7))
	for n := range 400 {
		for _, s := range []string{
			strings.Repeat("\x00", n), strings.Repeat("a", n), strings.Repeat("\x80", n), strings.Repeat("\xff", n),
			byteText(n), randomText(r, n), randomText(r, n),
		} {
			lookAt(t, s)
		}
	}
	for _, n := range []int{1<<13 - 1, 1 << 13, 1<<13 + 1, 1<<16 - 9, 1<<16 - 8, 1<<20 + 55, 1<<21 + 56, 1 << 22} {
		lookAt(t, byteText(n))
	}
}

// P7.1: a text that ends as another one is filled is another text.
func TestFilledTexts(t *testing.T) {
	for _, n := range []int{0, 1, 55, 56, 63, 64, 119, 120} {
		s := byteText(n)
		for _, fill := range []string{"\x80", "\x80\x00", fillingOf(n, binary.LittleEndian), fillingOf(n, binary.BigEndian)} {
			lookAt(t, s+fill)
			if Md5(s+fill) == Md5(s) || Sha1(s+fill) == Sha1(s) {
				t.Fatalf("%q is as without %x", s, fill)
			}
		}
	}
}

// P7.2, P7.3: every byte, at every place of a chunk, and every bit.
func TestBytes(t *testing.T) {
	for c := range 256 {
		lookAt(t, string([]byte{byte(c)}))
		lookAt(t, strings.Repeat(string([]byte{byte(c)}), 64))
	}
	for at := range 130 {
		for bit := range 8 {
			b := []byte(byteText(130))
			b[at] ^= 1 << bit
			lookAt(t, string(b))
		}
	}
	lookAt(t, all256())
}

func TestRandomTexts(t *testing.T) {
	r := rand.New(rand.NewSource(71))
	for range 20000 {
		lookAt(t, randomText(r, r.Intn(300)))
	}
}

// P7.2: k(i), and r(i).
func TestTables(t *testing.T) {
	for i := range 64 {
		if k := uint32(math.Floor(math.Abs(math.Sin(float64(i+1))) * (1 << 32))); sines[i] != k {
			t.Fatalf("k(%d): %x, not %x", i, sines[i], k)
		}
	}
	if want := [4][4]int{{7, 12, 17, 22}, {5, 9, 14, 20}, {4, 11, 16, 23}, {6, 10, 15, 21}}; turns != want {
		t.Fatalf("r: %v, not %v", turns, want)
	}
}

// P7.2, P7.5: what RFC 1321 tells, and long texts.
func TestMd5AsThePaperSays(t *testing.T) {
	letters := "abcdefghijklmnopqrstuvwxyz"
	for _, c := range []struct{ s, want string }{
		{"", "d41d8cd98f00b204e9800998ecf8427e"},
		{"a", "0cc175b9c0f1b6a831c399e269772661"},
		{"abc", "900150983cd24fb0d6963f7d28e17f72"},
		{"message digest", "f96b697d7cb7938d525a2f31aaf161d0"},
		{letters, "c3fcd3d76192e4007dfb496cca67e13b"},
		{strings.ToUpper(letters) + letters + "0123456789", "d174ab98d277d9f5a5611c2c9f419d9f"},
		{strings.Repeat("1234567890", 8), "57edf4a22be3c955ac49da2e2107b67a"},
		{strings.Repeat("a", 55), "ef1772b6dff9a122358552954ad0df65"},
		{strings.Repeat("a", 56), "3b0c8ac703f828b04c6c197006d17218"},
		{strings.Repeat("a", 64), "014842d480b571495a4a0363793f7367"},
		{strings.Repeat("01234567", 80), "ffeaeb581c29c85301f6d7252808fa3d"},
		{all256(), "e2c865db4162bed963bfaa9ef6ac18f0"},
		{strings.Repeat("a", 1000000), "7707d6ae4e027c70eea2a935c2296f21"},
	} {
		if got := Hex(Md5(c.s)); got != c.want {
			t.Fatalf("%s: %s, not %s", short(c.s), got, c.want)
		}
	}
}

// P7.3, P7.5: what RFC 3174 tells, and others.
func TestSha1AsThePaperSays(t *testing.T) {
	for _, c := range []struct{ s, want string }{
		{"", "da39a3ee5e6b4b0d3255bfef95601890afd80709"},
		{"abc", "a9993e364706816aba3e25717850c26c9cd0d89d"},
		{"abcdbcdecdefdefgefghfghighijhijkijkljklmklmnlmnomnopnopq", "84983e441c3bd26ebaae4aa1f95129e5e54670f1"},
		{strings.Repeat("a", 55), "c1c8bbdc22796e28c0e15163d20899b65621d65a"},
		{strings.Repeat("a", 56), "c2db330f6083854c99d4b5bfb6e8f29f201be699"},
		{strings.Repeat("a", 64), "0098ba824b5c16427bd7a1122a5a442a25ec644d"},
		{strings.Repeat("01234567", 80), "dea356a2cddd90c7a7ecedc5ebb563934f460452"},
		{all256(), "4916d6bdb7f78e6803698cab32d1586ea457dfc8"},
		{strings.Repeat("a", 1000000), "34aa973cd4c4daa4f61eeb2bdbad27316534016f"},
	} {
		if got := Hex(Sha1(c.s)); got != c.want {
			t.Fatalf("%s: %s, not %s", short(c.s), got, c.want)
		}
	}
}

// P7.4: every byte is told by two digits, in their order.
func TestHex(t *testing.T) {
	for _, c := range []struct{ s, want string }{
		{"", ""}, {"a b", "612062"}, {"\x00", "00"}, {"\x0f", "0f"}, {"\xf0", "f0"}, {"\xff\x00\x09\x0a", "ff00090a"},
		{"\u00e9", "c3a9"}, {"\xed\xa0\x80", "eda080"}, {"0af", "306166"}, {"AF", "4146"},
	} {
		if got := Hex(c.s); got != c.want {
			t.Fatalf("Hex(%q): %q, not %q", c.s, got, c.want)
		}
	}
	r := rand.New(rand.NewSource(74))
	texts := []string{all256(), byteText(100000)}
	for n := range 300 {
		texts = append(texts, randomText(r, n))
	}
	for _, s := range texts {
		if got := Hex(s); got != hex.EncodeToString([]byte(s)) {
			t.Fatalf("Hex(%s): %s", short(s), short(got))
		}
	}
}

// P7.4: known answers, and all texts of some lengths in each place.
func TestSalted(t *testing.T) {
	for _, c := range []struct{ key, password, tail, want string }{
		{"1234567890", "secret", api.Tail, "054b2494f6d223078f90b1d1333b757f"},
		{"k", "p", "t", "644a4671d1ecae634a30c8c4843c10c9"},
		{"", "", "", "59adb24ef3cdbe0297f05b395827453f"},
	} {
		if got := Hex(Salted(c.key, c.password, c.tail)); got != c.want {
			t.Fatalf("Salted(%q, %q, %q): %s, not %s", c.key, c.password, c.tail, got, c.want)
		}
	}
	r := rand.New(rand.NewSource(75))
	lengths := []int{0, 1, 2, 15, 16, 17, 39, 40, 47, 48, 55, 56, 64, 100}
	for _, a := range lengths {
		for _, b := range lengths {
			for _, c := range lengths {
				key, password, tail := randomText(r, a), randomText(r, b), randomText(r, c)
				if got, want := Salted(key, password, tail), md5Of(key+md5Of(password)+tail); got != want {
					t.Fatalf("Salted(%q, %q, %q): %x, not %x", key, password, tail, got, want)
				}
			}
		}
	}
}

// P7.4: each of the three has a part in it, in its own place; the digest of the password goes in as bytes, not as digits.
func TestSaltedTellsApart(t *testing.T) {
	base := Salted("key", "secret", "tail")
	for _, c := range [][3]string{
		{"", "secret", "tail"}, {"key", "", "tail"}, {"key", "secret", ""}, {"kex", "secret", "tail"},
		{"key", "Secret", "tail"}, {"key", "secret ", "tail"}, {"key", "secret", "tail\x00"}, {"key\x00", "secret", "tail"},
		{"tail", "secret", "key"}, {"secret", "key", "tail"}, {"key", Md5("secret"), "tail"}, {"keytail", "secret", ""},
	} {
		if Salted(c[0], c[1], c[2]) == base {
			t.Fatalf("%q is as with key, secret, tail", c)
		}
	}
	for _, other := range []string{
		Md5("key" + "secret" + "tail"), Md5("key" + Hex(Md5("secret")) + "tail"), Md5(Md5("key") + Md5("secret") + "tail"),
		Md5(Md5("secret") + "key" + "tail"), Sha1("key" + Sha1("secret") + "tail"), Hex(base),
	} {
		if other == base {
			t.Fatalf("%x", other)
		}
	}
}

// answers tells what all calls say of s.
func answers(s string) []string {
	return []string{Md5(s), Sha1(s), Hex(s), Salted(s, s, s)}
}

// All four: sizes of the answers; nothing is kept from call to call; several may ask at one time.
func TestPure(t *testing.T) {
	texts := []string{"", "abc", "\xff\xfe", byteText(56), byteText(64), byteText(1000)}
	var first [][]string
	for _, s := range texts {
		a := answers(s)
		if len(a[0]) != 16 || len(a[1]) != 20 || len(a[2]) != 2*len(s) || len(a[3]) != 16 {
			t.Fatalf("%q: %q", s, a)
		}
		first = append(first, a)
	}
	var all sync.WaitGroup
	for range 8 {
		all.Go(func() {
			for i := range texts {
				i = len(texts) - 1 - i
				if a := answers(texts[i]); !slices.Equal(a, first[i]) {
					t.Errorf("%q: %q, not %q", texts[i], a, first[i])
				}
			}
		})
	}
	all.Wait()
}
