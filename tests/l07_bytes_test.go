package tests

import (
	"encoding/binary"
	"fmt"
	"hash/crc32"
	"math"
	wide "math/big"
	"math/bits"
	"math/rand"
	"strings"
	"testing"
	"unsafe"

	"loop.example/g00690/impl"
)

// positions are numbers of bytes of s, its ends with what is one beyond them, and
// some that are far off.
func positions(s string) []int {
	list := []int{math.MinInt, math.MinInt + 1, -1 << 32, -5, math.MaxInt - 4, math.MaxInt, 1 << 32, 1<<32 + 1}
	for at := -2; at <= len(s)+2; at++ {
		list = append(list, at)
	}
	return list
}

// putIntByDefinition divides what chapter 7 calls u, in numbers that never wrap.
func putIntByDefinition(n int) string {
	u := wide.NewInt(int64(n))
	u.Mul(u, wide.NewInt(2))
	if n < 0 {
		u.Sub(wide.NewInt(-1), u)
	}
	var list []byte
	for base, low := wide.NewInt(128), new(wide.Int); ; {
		u.DivMod(u, base, low)
		if u.Sign() == 0 {
			return string(append(list, byte(low.Int64())))
		}
		list = append(list, byte(low.Int64())+128)
	}
}

// getIntByDefinition is told what number there might be by the library, and
// whether the bytes are as few as can be by putting it down again.
func getIntByDefinition(s string, at int) (int, int, bool) {
	if at < 0 || at > len(s) {
		return 0, 0, false
	}
	n, size := binary.Varint([]byte(s[at:]))
	if size <= 0 || putIntByDefinition(int(n)) != s[at:at+size] {
		return 0, 0, false
	}
	return int(n), at + size, true
}

// crcByDefinition asks the library's sum, which takes the bits of each byte, and
// of the sum itself, the other way round.
func crcByDefinition(s string) int {
	turned := []byte(s)
	for i := range turned {
		turned[i] = bits.Reverse8(turned[i])
	}
	return int(bits.Reverse32(crc32.ChecksumIEEE(turned)))
}

func putWordByDefinition(n int) string {
	return string(binary.BigEndian.AppendUint32(nil, uint32(n)))
}

func sectionByDefinition(tag int, body string) string {
	return string([]byte{byte(tag)}) + putIntByDefinition(len(body)) + body + putWordByDefinition(crcByDefinition(body))
}

// sectionRead is what GetSection answers.
type sectionRead struct {
	tag  int
	body string
	next int
	code int
}

// getSectionByDefinition asks one thing after the other, in the order of chapter 7.
func getSectionByDefinition(s string, at int) sectionRead {
	if at < 0 || at >= len(s) {
		return sectionRead{code: impl.ByShort}
	}
	rest := s[at+1:]
	n, behind, ok := getIntByDefinition(rest, 0)
	switch {
	case onlyMore(rest):
		return sectionRead{code: impl.ByShort}
	case !ok || n < 0 || n > 200000:
		return sectionRead{code: impl.ByForm}
	case len(rest)-behind < n+4:
		return sectionRead{code: impl.ByShort}
	}
	body, sum := rest[behind:behind+n], rest[behind+n:behind+n+4]
	if putWordByDefinition(crcByDefinition(body)) != sum {
		return sectionRead{code: impl.BySum}
	}
	return sectionRead{int(s[at]), body, at + 1 + behind + n + 4, impl.ByOk}
}

// onlyMore tells whether all bytes of s have 128 more.
func onlyMore(s string) bool {
	for i := range len(s) {
		if s[i] < 128 {
			return false
		}
	}
	return true
}

func wantInt(t *testing.T, s string, at int, n int, next int, ok bool) {
	t.Helper()
	gotN, gotNext, gotOk := impl.GetInt(s, at)
	if gotN != n || gotNext != next || gotOk != ok {
		t.Errorf("GetInt(%.40q, %d) = %d, %d, %v, want %d, %d, %v", s, at, gotN, gotNext, gotOk, n, next, ok)
	}
}

func wantNoInt(t *testing.T, s string, at int) {
	t.Helper()
	wantInt(t, s, at, 0, 0, false)
}

// wantNumber holds PutInt of n against s, and GetInt against n: alone, with bytes
// around it, and cut off at each place.
func wantNumber(t *testing.T, n int, s string) {
	t.Helper()
	if got := impl.PutInt(n); got != s {
		t.Errorf("PutInt(%d) = %q, want %q", n, got, s)
	}
	for _, ahead := range []string{"", "q", "\x00", "\x80", "\xff\xff\xff"} {
		for _, behind := range []string{"", "z", "\x00", "\x80", "\xff\x01"} {
			wantInt(t, ahead+s+behind, len(ahead), n, len(ahead)+len(s), true)
		}
		for cut := range len(s) {
			wantNoInt(t, ahead+s[:cut], len(ahead))
		}
	}
}

func wantWord(t *testing.T, s string, at int, n int, ok bool) {
	t.Helper()
	if gotN, gotOk := impl.GetWord(s, at); gotN != n || gotOk != ok {
		t.Errorf("GetWord(%.40q, %d) = %d, %v, want %d, %v", s, at, gotN, gotOk, n, ok)
	}
}

func wantSection(t *testing.T, s string, at int, want sectionRead) {
	t.Helper()
	tag, body, next, code := impl.GetSection(s, at)
	if (sectionRead{tag, body, next, code}) != want {
		t.Errorf("GetSection(%.60q, %d) = %d, %.40q, %d, %d, want %d, %.40q, %d, %d",
			s, at, tag, body, next, code, want.tag, want.body, want.next, want.code)
	}
}

// wantCode is wantSection for a code that refuses, at any place: the bytes ahead
// of s must not count.
func wantCode(t *testing.T, s string, code int) {
	t.Helper()
	for _, ahead := range []string{"", "\x00", "\x46\x80", impl.Section(9, "ahead")} {
		wantSection(t, ahead+s, len(ahead), sectionRead{code: code})
	}
}

// randomBytes are n bytes, of a kind that rnd chooses: any ones, some that often
// end a number, or some that seldom do.
func randomBytes(rnd *rand.Rand, n int) string {
	kinds := []string{"\x00\x01\x02\x7f\x80\x81\xff", "\x80\xff\xff\x80\x01", "\x00"}
	kind := rnd.Intn(len(kinds) + 1)
	list := make([]byte, n)
	for i := range list {
		list[i] = byte(rnd.Intn(256))
		if kind < len(kinds) {
			list[i] = kinds[kind][rnd.Intn(len(kinds[kind]))]
		}
	}
	return string(list)
}

// bodies are some of many lengths, the edges of PutInt of these among them.
func bodies() []string {
	rnd := rand.New(rand.NewSource(71))
	list := []string{"", "\x00", "\xff", "abc", "\x00\x00\x00\x00", "\xff\xff\xff\xff", "\x46\x00\x00\x00\x00\x00"}
	for _, n := range []int{2, 5, 31, 62, 63, 64, 65, 127, 128, 255, 256, 300, 8190, 8191, 8192, 8193} {
		list = append(list, randomBytes(rnd, n))
	}
	return list
}

func TestByteConstants(t *testing.T) {
	wantList(t, "MaxBytes and codes", []int{impl.MaxBytes, impl.ByOk, impl.ByShort, impl.BySum, impl.ByForm}, 200000, 0, 1, 2, 3)
}

func TestNumbersAtTheirEdges(t *testing.T) {
	nine := strings.Repeat("\xff", 9)
	for n, s := range map[int]string{
		0: "\x00", -1: "\x01", 1: "\x02", -2: "\x03", 2: "\x04",
		63: "\x7e", -64: "\x7f", 64: "\x80\x01", -65: "\x81\x01", 65: "\x82\x01",
		127: "\xfe\x01", 128: "\x80\x02", 200000: "\x80\xb5\x18",
		8191: "\xfe\x7f", -8192: "\xff\x7f", 8192: "\x80\x80\x01", -8193: "\x81\x80\x01",
		math.MaxInt: "\xfe" + nine[1:] + "\x01", math.MinInt: nine + "\x01",
		math.MaxInt - 1: "\xfc" + nine[1:] + "\x01", math.MinInt + 1: "\xfd" + nine[1:] + "\x01",
		1 << 62: strings.Repeat("\x80", 9) + "\x01", 1<<62 - 1: "\xfe" + nine[2:] + "\x7f",
		-1 << 62: nine[1:] + "\x7f", -1<<62 - 1: "\x81" + strings.Repeat("\x80", 8) + "\x01",
	} {
		wantNumber(t, n, s)
	}
}

func TestNumbersAgainstTheDefinition(t *testing.T) {
	for n := -20000; n <= 20000; n++ {
		s := impl.PutInt(n)
		if s != putIntByDefinition(n) {
			t.Fatalf("PutInt(%d) = %q, want %q", n, s, putIntByDefinition(n))
		}
		wantInt(t, "a"+s+"b", 1, n, 1+len(s), true)
	}
	rnd := rand.New(rand.NewSource(7))
	for shift := range 64 {
		for _, n := range []int{1 << shift, -1 << shift, int(rnd.Uint64() >> shift), -int(rnd.Uint64() >> shift)} {
			for more := -2; more <= 2; more++ {
				wantNumber(t, n+more, putIntByDefinition(n+more))
			}
		}
	}
}

func TestGetIntAtEachPosition(t *testing.T) {
	for _, s := range []string{"", "\x00", "\x02", "\x80", "\x80\x01", "ab\x81\x80\x01\x80", "\x80\x00\x05", impl.PutInt(math.MinInt) + impl.PutInt(-1)} {
		for _, at := range positions(s) {
			n, next, ok := getIntByDefinition(s, at)
			wantInt(t, s, at, n, next, ok)
		}
	}
	wantNoInt(t, "\x02", -1)
	wantInt(t, "\x02", 0, 1, 1, true)
	wantNoInt(t, "\x02", 1)
	wantNoInt(t, "\x02", 2)
	wantNoInt(t, "", 0)
}

func TestGetIntWantsAsFewBytesAsCanBe(t *testing.T) {
	for _, n := range []int{0, -1, 1, 63, 64, -64, -65, 8191, 8192, 1 << 40, math.MaxInt, math.MinInt} {
		s := impl.PutInt(n)
		last := len(s) - 1
		for more := 1; more <= 12; more++ {
			long := s[:last] + string([]byte{s[last] + 128}) + strings.Repeat("\x80", more-1) + "\x00"
			wantNoInt(t, long, 0)
			wantNoInt(t, "x"+long+"\x01", 1)
		}
	}
}

func TestGetIntOfTenBytesAndMore(t *testing.T) {
	for _, nine := range []string{strings.Repeat("\xff", 9), strings.Repeat("\x80", 9), "\x81" + strings.Repeat("\x80", 8), "\xfe" + strings.Repeat("\xff", 8)} {
		for last := range 256 {
			s := nine + string([]byte{byte(last)})
			n, next, ok := getIntByDefinition(s, 0)
			if ok != (last == 1) {
				t.Fatalf("of %q, the definition tells %v", s, ok)
			}
			wantInt(t, s, 0, n, next, ok)
			for _, behind := range []string{"\x00", "\x01", "\x02", "\x80", "\x81\x01", "\xff\xff\xff\x01"} {
				wantInt(t, s+behind, 0, n, next, ok)
			}
		}
	}
	for size := 1; size < 80; size++ {
		wantNoInt(t, strings.Repeat("\x80", size), 0)
		wantNoInt(t, strings.Repeat("\x80", size)+"\x00", 0)
		if size >= 10 {
			wantNoInt(t, strings.Repeat("\x80", size)+"\x01", 0)
			wantNoInt(t, strings.Repeat("\xff", size)+"\x7f", 0)
		}
	}
}

func TestGetIntAgainstTheDefinition(t *testing.T) {
	for k := range 1 << 16 {
		s := string([]byte{byte(k >> 8), byte(k)})
		n, next, ok := getIntByDefinition(s, 0)
		wantInt(t, s, 0, n, next, ok)
	}
	rnd := rand.New(rand.NewSource(72))
	for range 20000 {
		s := randomBytes(rnd, rnd.Intn(24))
		for at := -1; at <= len(s)+1; at++ {
			n, next, ok := getIntByDefinition(s, at)
			wantInt(t, s, at, n, next, ok)
			if ok && impl.PutInt(n) != s[at:next] {
				t.Fatalf("GetInt(%q, %d) = %d, whose bytes are %q", s, at, n, impl.PutInt(n))
			}
		}
	}
}

// TestCrc's sums were worked out bit by bit, apart from this program.
func TestCrc(t *testing.T) {
	each := make([]byte, 256)
	for i := range each {
		each[i] = byte(i)
	}
	for s, want := range map[string]int{
		"":                           0,
		"\x00":                       0xb1f7404b,
		"\xff":                       0xff,
		"\x80":                       0xd8fba0a5,
		"abc":                        0x648cbb73,
		"123456789":                  0xfc891918,
		"\x00\x00\x00\x00":           0x38fb2284,
		"\xff\xff\xff\xff":           0xffffffff,
		"\x80\x81\xfe\xff":           0x5ec2553f,
		"\xc3\xa4\xe2\x82\xac":       0x1cd8feac,
		string(each):                 0xb6b5ee95,
		strings.Repeat("\xff", 300):  0x81185038,
		strings.Repeat("\x00", 1000): 0x01e8d060,
	} {
		if got := impl.Crc(s); got != want {
			t.Errorf("Crc(%.20q) = %#x, want %#x", s, got, want)
		}
	}
}

func TestCrcAgainstTheDefinition(t *testing.T) {
	list := append(bodies(), strings.Repeat("\xa5\x00\x7f", 70000))
	for k := range 256 {
		list = append(list, string([]byte{byte(k)}), string([]byte{7, byte(k), 200}))
	}
	rnd := rand.New(rand.NewSource(73))
	for range 2000 {
		list = append(list, randomBytes(rnd, rnd.Intn(40)))
	}
	for _, s := range list {
		if got, want := impl.Crc(s), crcByDefinition(s); got != want {
			t.Errorf("Crc(%.40q) of %d bytes = %#x, want %#x", s, len(s), got, want)
		}
	}
}

func TestWords(t *testing.T) {
	for n, s := range map[int]string{
		0: "\x00\x00\x00\x00", 1: "\x00\x00\x00\x01", 127: "\x00\x00\x00\x7f", 128: "\x00\x00\x00\x80", 255: "\x00\x00\x00\xff",
		256: "\x00\x00\x01\x00", 65536: "\x00\x01\x00\x00", 16777216: "\x01\x00\x00\x00", 16909060: "\x01\x02\x03\x04",
		1<<31 - 1: "\x7f\xff\xff\xff", 1 << 31: "\x80\x00\x00\x00", 4294967294: "\xff\xff\xff\xfe", 4294967295: "\xff\xff\xff\xff",
	} {
		if got := impl.PutWord(n); got != s {
			t.Errorf("PutWord(%d) = %q, want %q", n, got, s)
		}
		wantWord(t, s, 0, n, true)
		wantWord(t, "ab"+s+"\xfe", 2, n, true)
	}
	for _, n := range []int{-1, -2, -256, math.MinInt, math.MinInt + 1, -1 << 32, 4294967296, 4294967297, 1<<33 + 5, math.MaxInt} {
		if got := impl.PutWord(n); got != "" {
			t.Errorf("PutWord(%d) = %q, want nothing", n, got)
		}
	}
	rnd := rand.New(rand.NewSource(74))
	for range 5000 {
		n := int(rnd.Uint32() >> rnd.Intn(32))
		if got := impl.PutWord(n); got != putWordByDefinition(n) {
			t.Errorf("PutWord(%d) = %q, want %q", n, got, putWordByDefinition(n))
		}
		wantWord(t, impl.PutWord(n), 0, n, true)
	}
}

func TestGetWordAtEachPosition(t *testing.T) {
	for _, s := range []string{"", "\x01", "\x01\x02\x03", "\x01\x02\x03\x04", "\x00\x01\x02\x03\x84", "\xff\xfe\xfd\xfc\x00\x00\x00\x00\x80"} {
		for _, at := range positions(s) {
			if at < 0 || at > len(s)-4 {
				wantWord(t, s, at, 0, false)
				continue
			}
			wantWord(t, s, at, int(binary.BigEndian.Uint32([]byte(s[at:]))), true)
		}
	}
	wantWord(t, "\x01\x02\x03\x04\x05", 1, 0x02030405, true)
	wantWord(t, "\x01\x02\x03\x04\x05", 2, 0, false)
}

// wantBack holds Section against its definition, and GetSection against what was
// put, with bytes around it.
func wantBack(t *testing.T, tag int, body string) {
	t.Helper()
	s := impl.Section(tag, body)
	if s != sectionByDefinition(tag, body) {
		t.Errorf("Section(%d, %.40q) = %.60q, want %.60q", tag, body, s, sectionByDefinition(tag, body))
	}
	for _, ahead := range []string{"", "\x00", "\x46\x80", "\xff\xff\xff\xff\xff", impl.Section(1, "z")} {
		for _, behind := range []string{"", "\x00", "\x80", s} {
			wantSection(t, ahead+s+behind, len(ahead), sectionRead{tag, body, len(ahead) + len(s), impl.ByOk})
		}
	}
}

func TestSectionsComeBack(t *testing.T) {
	for _, body := range bodies() {
		for _, tag := range []int{0, 70, 255} {
			wantBack(t, tag, body)
		}
	}
	for tag := range 256 {
		wantBack(t, tag, "abc")
	}
	if got, want := impl.Section(255, ""), "\xff\x00\x00\x00\x00\x00"; got != want {
		t.Errorf("Section(255, nothing) = %q, want %q", got, want)
	}
	if got, want := impl.Section(70, "abc"), "\x46\x06abc\x64\x8c\xbb\x73"; got != want {
		t.Errorf("Section(70, abc) = %q, want %q", got, want)
	}
}

func TestSectionsOfMaxBytes(t *testing.T) {
	most := strings.Repeat("\x00\xffab\x80", 40000)
	wantBack(t, 0, most)
	wantBack(t, 255, most[1:])
	for _, body := range []string{most + "\x00", most + most} {
		for _, tag := range []int{-1, 0, 255, 256} {
			if got := impl.Section(tag, body); got != "" {
				t.Errorf("Section(%d, ..) of %d bytes has %d bytes, want nothing", tag, len(body), len(got))
			}
		}
		wantCode(t, sectionByDefinition(70, body), impl.ByForm)
	}
}

func TestSectionRefusesTags(t *testing.T) {
	for _, tag := range []int{math.MinInt, -256, -255, -2, -1, 256, 257, 511, 512, 1 << 32, 1<<32 + 70, math.MaxInt} {
		for _, body := range []string{"", "abc"} {
			if got := impl.Section(tag, body); got != "" {
				t.Errorf("Section(%d, %q) = %q, want nothing", tag, body, got)
			}
		}
	}
}

func TestGetSectionAtEachPosition(t *testing.T) {
	s := impl.Section(70, "abc")
	for _, at := range []int{math.MinInt, -1, 9, 10, 11, math.MaxInt} {
		wantSection(t, s, at, sectionRead{code: impl.ByShort})
	}
	wantSection(t, s, 0, sectionRead{70, "abc", 9, impl.ByOk})
	wantSection(t, s, 1, sectionRead{code: impl.ByForm})
	for _, s := range []string{"", "\x46", s, s + s, s + "\x80\x80", impl.Section(1, impl.Section(2, impl.Section(3, "in")))} {
		for _, at := range positions(s) {
			wantSection(t, s, at, getSectionByDefinition(s, at))
		}
	}
}

func TestSectionsCutOff(t *testing.T) {
	for _, body := range bodies() {
		s := impl.Section(68, body)
		for cut := range len(s) {
			if len(body) > 300 && cut > 20 && cut < len(s)-20 && cut%997 != 0 {
				continue
			}
			wantCode(t, s[:cut], impl.ByShort)
		}
	}
}

// TestEachCode has the ways to be refused one by one, and where two codes would
// fit, the one that comes first.
func TestEachCode(t *testing.T) {
	put, full := impl.PutInt, strings.Repeat("\xff", 9)
	sum := impl.PutWord(impl.Crc("abc"))
	for s, code := range map[string]int{
		"":                impl.ByShort,
		"\x46":            impl.ByShort,
		"\x46\x80":        impl.ByShort,
		"\x46" + full:     impl.ByShort,
		"\x46\xff" + full: impl.ByShort,
		"\x46" + full + "\x81\x80\xff\xfe" + full:          impl.ByShort,
		"\x46" + full + "\x02":                             impl.ByForm,
		"\x46" + full + "\x7f":                             impl.ByForm,
		"\x46" + full + "\x81\x01":                         impl.ByForm,
		"\x46" + full + "\x81\x00":                         impl.ByForm,
		"\x46\x80\x00":                                     impl.ByForm,
		"\x46\x86\x00abc" + sum:                            impl.ByForm,
		"\x46\x86\x80\x00abc" + sum:                        impl.ByForm,
		"\x46\x86\x00abc\x00\x00\x00\x00":                  impl.ByForm,
		"\x46\x86\x00a":                                    impl.ByForm,
		"\x46\x01":                                         impl.ByForm,
		"\x46\x01\x00\x00\x00\x00":                         impl.ByForm,
		"\x46\x05abc" + sum:                                impl.ByForm,
		"\x46" + put(math.MinInt):                          impl.ByForm,
		"\x46" + put(math.MinInt) + "abc" + sum:            impl.ByForm,
		"\x46" + put(math.MaxInt):                          impl.ByForm,
		"\x46" + put(math.MaxInt) + "abc" + sum:            impl.ByForm,
		"\x46" + put(math.MaxInt-3) + "abc" + sum:          impl.ByForm,
		"\x46" + put(1<<32+3) + "abc" + sum:                impl.ByForm,
		"\x46" + put(200001):                               impl.ByForm,
		"\x46" + put(200001) + "abc" + sum:                 impl.ByForm,
		"\x46" + put(200000):                               impl.ByShort,
		"\x46" + put(200000) + "abc" + sum:                 impl.ByShort,
		"\x46\x00":                                         impl.ByShort,
		"\x46\x00\x00\x00\x00":                             impl.ByShort,
		"\x46\x06ab":                                       impl.ByShort,
		"\x46\x06abc":                                      impl.ByShort,
		"\x46\x06abc" + sum[:3]:                            impl.ByShort,
		"\x46\x06abd" + sum[:3]:                            impl.ByShort,
		"\x46\x06abc\x00\x00\x00":                          impl.ByShort,
		"\x46\x08abc" + sum:                                impl.ByShort,
		"\x46\x06abd" + sum:                                impl.BySum,
		"\x46\x06abc\x00\x00\x00\x00":                      impl.BySum,
		"\x46\x06abc" + sum[:3] + "\x72":                   impl.BySum,
		"\x46\x04abc" + sum:                                impl.BySum,
		"\x46\x08abc" + sum + "\x00":                       impl.BySum,
		"\x46\x06abc\x73\xbb\x8c\x64":                      impl.BySum,
		"\x46\x00\x00\x00\x00\x01":                         impl.BySum,
		"\x46\x00\xff\xff\xff\xff":                         impl.BySum,
		"\x46" + put(200000) + strings.Repeat("q", 200004): impl.BySum,
		"\x46" + put(200001) + strings.Repeat("q", 200005): impl.ByForm,
	} {
		if want := getSectionByDefinition(s, 0); want != (sectionRead{code: code}) {
			t.Errorf("of %.40q, the definition tells %.40v", s, want)
		}
		wantCode(t, s, code)
	}
}

// withTurned is s with those of size bits turned, from bit number from on, that
// pattern has; each byte has its highest bit first.
func withTurned(s string, from int, size int, pattern uint32) string {
	list := []byte(s)
	for i := range size {
		if pattern>>i&1 == 1 {
			list[(from+i)/8] ^= 128 >> ((from + i) % 8)
		}
	}
	return string(list)
}

// wantTold turns those bits in the body of s and the sum behind it, of which the
// first byte is number first, and wants them told.
func wantTold(t *testing.T, s string, first int, from int, size int, pattern uint32) {
	t.Helper()
	_, body, next, code := impl.GetSection(withTurned(s, first*8+from, size, pattern), 0)
	if body != "" || next != 0 || code != impl.BySum {
		t.Errorf("%.40q: %d bits of %#x turned from %d on: the code is %d, the body %.20q", s, size, pattern, from, code, body)
	}
}

func TestTurnedBitsAreTold(t *testing.T) {
	rnd := rand.New(rand.NewSource(75))
	for _, body := range []string{"", "\x00", "abc", "\xff\xff\xff\xff\xff", randomBytes(rnd, 30), strings.Repeat("\x00", 70)} {
		s := impl.Section(70, body)
		first := len(s) - len(body) - 4
		all := (len(body) + 4) * 8
		for from := range all {
			for size := 1; size <= min(32, all-from); size++ {
				wantTold(t, s, first, from, size, math.MaxUint32)
				wantTold(t, s, first, from, size, 1|1<<(size-1))
				wantTold(t, s, first, from, size, 1|1<<(size-1)|rnd.Uint32())
			}
			if small := min(10, all-from); from%8 == 5 {
				for pattern := uint32(1); pattern < 1<<small; pattern++ {
					wantTold(t, s, first, from, small, pattern)
				}
			}
		}
	}
}

func TestTurnedBitsOfMaxBytesAreTold(t *testing.T) {
	rnd := rand.New(rand.NewSource(76))
	body := randomBytes(rnd, 200000)
	s := impl.Section(70, body)
	first, all := len(s)-len(body)-4, (len(body)+4)*8
	for k := range 120 {
		size := 1 + rnd.Intn(32)
		from := []int{0, all - size, all - 32 - size/2, rnd.Intn(all - size)}[k%4]
		wantTold(t, s, first, from, size, 1|rnd.Uint32())
	}
}

// spoilt is s with a few bytes changed, left out, put in or cut off, or with
// another number in place of that of the bytes of the body.
func spoilt(rnd *rand.Rand, s string) string {
	at := rnd.Intn(len(s))
	tag, behind := s[:1], s[min(2, len(s)):]
	switch rnd.Intn(7) {
	case 0:
		return s[:at] + s[at+1:]
	case 1:
		return s[:at] + randomBytes(rnd, 1+rnd.Intn(3)) + s[at:]
	case 2:
		return s[:at]
	case 3:
		return tag + impl.PutInt(rnd.Intn(60)-20) + behind
	case 4:
		return tag + randomBytes(rnd, 1+rnd.Intn(12)) + behind
	case 5:
		return tag + impl.PutInt([]int{-1, 199999, 200000, 200001, math.MaxInt, math.MinInt}[rnd.Intn(6)]) + behind
	}
	return withTurned(s, at*8, 8, rnd.Uint32())
}

func TestSectionsAgainstTheDefinition(t *testing.T) {
	rnd := rand.New(rand.NewSource(77))
	codes := make([]int, 4)
	for range 12000 {
		s := impl.Section(rnd.Intn(256), randomBytes(rnd, rnd.Intn(20))) + randomBytes(rnd, rnd.Intn(6))
		for range rnd.Intn(3) {
			if s != "" {
				s = spoilt(rnd, s)
			}
		}
		for at := -1; at <= len(s)+1; at++ {
			want := getSectionByDefinition(s, at)
			wantSection(t, s, at, want)
			if at == 0 {
				codes[want.code]++
			}
		}
	}
	for code, count := range codes {
		if count < 300 {
			t.Errorf("code %d came %d times; the bytes do not show much of it", code, count)
		}
	}
}

func TestSectionsOneBehindTheOther(t *testing.T) {
	list := bodies()
	s := "BRM1"
	for k, body := range list {
		s += impl.Section(k, body) + impl.PutInt(-k) + impl.PutWord(k)
	}
	at := 4
	for k, body := range list {
		what := fmt.Sprint("section ", k)
		tag, got, next, code := impl.GetSection(s, at)
		n, behind, ok := impl.GetInt(s, next)
		word, there := impl.GetWord(s, behind)
		if tag != k || got != body || code != impl.ByOk || n != -k || !ok || word != k || !there {
			t.Fatalf("%s: %d, %.20q, %d, then %d, %v, then %d, %v", what, tag, got, code, n, ok, word, there)
		}
		at = behind + 4
	}
	if at != len(s) {
		t.Errorf("at %d of %d bytes behind the last one", at, len(s))
	}
}

func TestBodiesAreNewMemory(t *testing.T) {
	s := impl.Section(70, "some bytes")
	_, body, _, _ := impl.GetSection(s, 0)
	from := uintptr(unsafe.Pointer(unsafe.StringData(s)))
	at := uintptr(unsafe.Pointer(unsafe.StringData(body)))
	if at >= from && at < from+uintptr(len(s)) {
		t.Error("a body shares memory with the bytes it was read from")
	}
}
