package tests

import (
	"bytes"
	"hash/crc32"
	"hash/fnv"
	"math"
	"slices"
	"strings"
	"testing"

	"loop.example/s02772/impl"
)

func edgeNumbers() []uint64 {
	numbers := []uint64{0, 1, 300, math.MaxInt32, math.MaxInt64, math.MaxUint64 - 1, math.MaxUint64}
	for k := 1; k <= 9; k++ {
		power := uint64(1) << (7 * k)
		numbers = append(numbers, power-1, power, power+1)
	}
	return numbers
}

func fewestBytes(v uint64) int {
	n := 1
	for v > 127 {
		v >>= 7
		n++
	}
	return n
}

func TestUvarintComesBack(t *testing.T) {
	for _, v := range edgeNumbers() {
		b := impl.PutUvarint(v)
		if len(b) != fewestBytes(v) {
			t.Errorf("%d: %d bytes", v, len(b))
		}
		laid := slices.Concat([]byte{255, 0, 128}, b, []byte{0, 255})
		got, at, code := impl.GetUvarint(laid, 3)
		if got != v || at != 3+len(b) || code != 0 {
			t.Errorf("%d: %d %d %d", v, got, at, code)
		}
	}
}

func TestUvarintBytes(t *testing.T) {
	for v, want := range map[uint64]string{
		0: "\x00", 127: "\x7f", 128: "\x80\x01", 255: "\xff\x01", 16383: "\xff\x7f", 16384: "\x80\x80\x01",
		math.MaxUint64: "\xff\xff\xff\xff\xff\xff\xff\xff\xff\x01",
		1 << 63:        "\x80\x80\x80\x80\x80\x80\x80\x80\x80\x01",
	} {
		if got := impl.PutUvarint(v); string(got) != want {
			t.Errorf("%d: %q", v, got)
		}
	}
}

func TestUvarintThatEndsEarly(t *testing.T) {
	for _, v := range edgeNumbers() {
		b := impl.PutUvarint(v)
		for cut := range b {
			got, at, code := impl.GetUvarint(b[:cut], 0)
			if got != 0 || at != 0 || code != 1 {
				t.Errorf("%q: %d %d %d", b[:cut], got, at, code)
			}
		}
	}
}

func TestUvarintPositions(t *testing.T) {
	b := []byte{5, 6, 7}
	for _, pos := range []int{-1, -2, math.MinInt, 3, 4, 100, math.MaxInt} {
		if v, at, code := impl.GetUvarint(b, pos); v != 0 || at != pos || code != 1 {
			t.Errorf("position %d: %d %d %d", pos, v, at, code)
		}
		if v, at, code := impl.GetUvarint(nil, pos); v != 0 || at != pos || code != 1 {
			t.Errorf("position %d of nothing: %d %d %d", pos, v, at, code)
		}
	}
	for pos := range b {
		if v, at, code := impl.GetUvarint(b, pos); v != uint64(b[pos]) || at != pos+1 || code != 0 {
			t.Errorf("position %d: %d %d %d", pos, v, at, code)
		}
	}
}

func TestUvarintCodes(t *testing.T) {
	nine := strings.Repeat("\x80", 9)
	full := strings.Repeat("\xff", 9)
	for i, c := range []struct {
		b    string
		code int
	}{
		{nine + "\x01", 0}, {full + "\x01", 0}, {full + "\x01\xff", 0},
		{nine + "\x02", 2}, {full + "\x02", 2}, {full + "\x7f", 2}, {full + "\x80", 2}, {full + "\x81", 2}, {full + "\xff", 2},
		{full + "\x80\x00", 2}, {nine + "\x80\x01", 2}, {nine + "\x82", 2},
		{nine + "\x00", 3}, {full + "\x00", 3}, {full + "\x00\x05", 3},
		{"\x80\x00", 3}, {"\x81\x00", 3}, {"\xff\x00", 3}, {"\x80\x80\x00", 3}, {"\xff\x80\x00\x01", 3}, {nine[:8] + "\x00", 3},
		{nine, 1}, {full, 1}, {nine[:8], 1}, {"\xff", 1}, {"", 1},
	} {
		b := []byte("\x80" + c.b)
		v, at, code := impl.GetUvarint(b, 1)
		if code != c.code || code != 0 && (v != 0 || at != 1) {
			t.Errorf("case %d, %q: %d %d %d", i, c.b, v, at, code)
		}
	}
}

func readsOnlyItsOwn(t *testing.T, b []byte) {
	v, at, code := impl.GetUvarint(b, 0)
	if code == 0 && !bytes.Equal(impl.PutUvarint(v), b[:at]) {
		t.Errorf("%q is read as %d", b, v)
	}
	if code != 0 && (v != 0 || at != 0) {
		t.Errorf("%q: %d %d beside code %d", b, v, at, code)
	}
}

func TestNoOtherBytesAreThatNumber(t *testing.T) {
	for x := range 256 {
		for y := range 256 {
			readsOnlyItsOwn(t, []byte{byte(x), byte(y)})
			readsOnlyItsOwn(t, []byte{0x80, byte(x), byte(y)})
			for _, fill := range []byte{0x80, 0xff, 0xc1} {
				for _, front := range []int{6, 7, 8, 9} {
					readsOnlyItsOwn(t, append(bytes.Repeat([]byte{fill}, front), byte(x), byte(y)))
				}
			}
		}
	}
}

func TestTextComesBack(t *testing.T) {
	for _, length := range []int{0, 1, 2, 127, 128, impl.MaxText - 1, impl.MaxText, impl.MaxText + 1, 16384} {
		s := strings.Repeat("\x80\x00a/", length/4+1)[:length]
		b := impl.PutText(s)
		if !bytes.Equal(b, append(impl.PutUvarint(uint64(length)), s...)) {
			t.Errorf("length %d: %q", length, b)
		}
		laid := slices.Concat([]byte{1, 2}, b, []byte{3})
		for _, most := range []int{length, length + 1, math.MaxInt} {
			if got, at, code := impl.GetText(laid, 2, most); got != s || at != 2+len(b) || code != 0 {
				t.Errorf("length %d, most %d: %d %d", length, most, at, code)
			}
		}
		for _, most := range []int{length - 1, -1, math.MinInt} {
			if got, at, code := impl.GetText(laid, 2, most); got != "" || at != 2 || code != 4 {
				t.Errorf("length %d, most %d: %d %d", length, most, at, code)
			}
		}
		for cut := range b {
			if got, at, code := impl.GetText(b[:cut], 0, length); got != "" || at != 0 || code != 1 {
				t.Errorf("length %d, cut at %d: %d %d", length, cut, at, code)
			}
		}
	}
}

func TestTextCodesInOrder(t *testing.T) {
	for i, c := range []struct {
		b    string
		pos  int
		most int
		code int
	}{
		{"\x03ab", 0, 3, 1}, {"\x03ab", 0, 2, 4}, {"\x03", 0, 3, 1}, {"\x03", 0, -1, 4}, {"\x01", 0, 0, 4},
		{"\x80", 0, -1, 1}, {"", 0, -1, 1}, {"\x00", 1, -1, 1}, {"\x00", -1, 5, 1}, {"\x00", 2, 5, 1},
		{"\x00", math.MaxInt, 5, 1}, {"\x00", math.MinInt, 5, 1},
		{"\x81\x00a", 0, -1, 3}, {"\x81\x00a", 0, 9, 3},
		{strings.Repeat("\xff", 9) + "\x02", 0, -1, 2}, {strings.Repeat("\xff", 9) + "\x01", 0, math.MaxInt, 4},
		{strings.Repeat("\xff", 8) + "\x7f", 0, math.MaxInt, 1}, {strings.Repeat("\xff", 8) + "\x7f", 0, 5, 4},
		{strings.Repeat("\x80", 9) + "\x01", 0, math.MaxInt, 4},
	} {
		s, at, code := impl.GetText([]byte(c.b), c.pos, c.most)
		if s != "" || at != c.pos || code != c.code {
			t.Errorf("case %d: %q %d %d", i, s, at, code)
		}
	}
}

func TestNoOtherBytesAreThatText(t *testing.T) {
	d := &dice{state: 1}
	for range 20000 {
		b := make([]byte, d.below(8))
		for i := range b {
			b[i] = []byte{0, 1, 2, 3, 0x80, 0x81, 0xff}[d.below(7)]
		}
		s, at, code := impl.GetText(b, 0, 5)
		if code == 0 && (len(s) > 5 || !bytes.Equal(impl.PutText(s), b[:at])) {
			t.Errorf("%q is read as %q", b, s)
		}
		if code != 0 && (s != "" || at != 0) {
			t.Errorf("%q: %q %d beside code %d", b, s, at, code)
		}
	}
}

func TestTextIsNewMemory(t *testing.T) {
	b := []byte("\x03abc")
	s, _, _ := impl.GetText(b, 0, 3)
	b[1] = 'z'
	if s != "abc" {
		t.Errorf("%q", s)
	}
}

func TestSumsAreTheNamedOnes(t *testing.T) {
	d := &dice{state: 2}
	for length := range 300 {
		b := make([]byte, length)
		for i := range b {
			b[i] = byte(d.below(256))
		}
		if got, want := impl.Crc32(b), crc32.ChecksumIEEE(b); got != want {
			t.Errorf("Crc32 of %d bytes: %d, not %d", length, got, want)
		}
		h := fnv.New64a()
		h.Write(b)
		if got, want := impl.Digest(b), h.Sum64(); got != want {
			t.Errorf("Digest of %d bytes: %d, not %d", length, got, want)
		}
	}
}
