package tests

import (
	"bytes"
	"fmt"
	"math"
	"slices"
	"strings"
	"testing"

	"loop.example/s02772/impl"
)

func TestFrameBytes(t *testing.T) {
	b, ok := impl.PutFrame(frameOf(impl.FrameDelta, "123456789"))
	if !ok || !bytes.Equal(b[:13], []byte("\xc7\x01\x03\x09123456789")) || len(b) != 17 {
		t.Errorf("%q %v", b, ok)
	}
	for kind := 1; kind <= 3; kind++ {
		for _, size := range []int{0, 1, 126, 127, 128, 129, 1000, impl.MaxPayload - 1, impl.MaxPayload} {
			payload := strings.Repeat("\xc7p", size)[:size]
			b, ok := impl.PutFrame(frameOf(kind, payload))
			if !ok || !bytes.Equal(b, frameBytes(byte(kind), payload)) {
				t.Errorf("kind %d, %d bytes: %d bytes %v", kind, size, len(b), ok)
			}
		}
	}
	if impl.FrameHello != 1 || impl.FrameWhole != 2 || impl.FrameDelta != 3 {
		t.Errorf("the kinds are others")
	}
}

func TestFramesThatAreNotWritten(t *testing.T) {
	long := strings.Repeat("p", impl.MaxPayload+1)
	for _, kind := range []int{0, 4, 5, -1, -255, 199, 255, 256, 257, 258, 259, 1 << 32, 1<<32 + 1, math.MaxInt, math.MinInt} {
		for _, payload := range []string{"", "p", long} {
			if b, ok := impl.PutFrame(frameOf(kind, payload)); ok || len(b) != 0 {
				t.Errorf("kind %d, %d bytes: %d bytes %v", kind, len(payload), len(b), ok)
			}
		}
	}
	for kind := 1; kind <= 3; kind++ {
		for _, payload := range []string{long, long + long} {
			if b, ok := impl.PutFrame(frameOf(kind, payload)); ok || len(b) != 0 {
				t.Errorf("kind %d, %d bytes: %d bytes %v", kind, len(payload), len(b), ok)
			}
		}
	}
}

func TestFrameBytesAreNewMemory(t *testing.T) {
	payload := roomyBytes([]byte("payload"))
	before := bytesAsIs(payload)
	one, _ := impl.PutFrame(impl.Frame{Kind: 1, Payload: payload})
	two, _ := impl.PutFrame(impl.Frame{Kind: 1, Payload: payload})
	if bytesAsIs(payload) != before {
		t.Errorf("PutFrame wrote into its argument")
	}
	checkBytesApart(t, "PutFrame", payload, one, two)
}

func TestFramesComeBack(t *testing.T) {
	d := &dice{state: 91}
	for i := range 200 {
		var frames []impl.Frame
		var stream []byte
		for range d.below(6) {
			f := diceFrame(d)
			b, _ := impl.PutFrame(f)
			frames = append(frames, f)
			stream = append(stream, b...)
		}
		got, back := impl.Feed(impl.Decoder{}, stream)
		if !sameFrames(back, frames) || !sameDecoder(got, impl.Decoder{Taken: len(stream)}) {
			t.Errorf("stream %d of %d frames: %d frames, %d %d", i, len(frames), len(back), got.Taken, got.Failed)
		}
	}
}

// placesOfLengths says which bytes of the frames are those of a length, and in which frame each byte is.
func placesOfLengths(frames []impl.Frame) (isLength []bool, inFrame []int) {
	for i, f := range frames {
		size := len(frameBytes(byte(f.Kind), string(f.Payload)))
		for at := range size {
			isLength = append(isLength, at >= 3 && at < size-4-len(f.Payload))
			inFrame = append(inFrame, i)
		}
	}
	return isLength, inFrame
}

// failureOf is what a change of the byte at a place of its frame must lead to.
func failureOf(at int, changed byte) int {
	switch {
	case at == 0:
		return 1
	case at == 1:
		return 2
	case at == 2 && (changed < 1 || changed > 3):
		return 3
	}
	return 5
}

func checkOneByteChanged(t *testing.T, frames []impl.Frame, values func(b byte) []byte) {
	t.Helper()
	stream := streamOf(frames...)
	isLength, inFrame := placesOfLengths(frames)
	start := 0
	for i := range stream {
		if i > 0 && inFrame[i] != inFrame[i-1] {
			start = i
		}
		if isLength[i] {
			continue
		}
		for _, changed := range values(stream[i]) {
			bad := slices.Clone(stream)
			bad[i] = changed
			want := impl.Decoder{Taken: start, Failed: failureOf(i-start, changed)}
			d, back := impl.Feed(impl.Decoder{}, bad)
			if !sameDecoder(d, want) || !sameFrames(back, frames[:inFrame[i]]) {
				t.Errorf("byte %d made %d: %d frames, %v and not %v", i, changed, len(back), d, want)
			}
		}
	}
}

func TestAnyByteChanged(t *testing.T) {
	all := func(b byte) []byte {
		var values []byte
		for x := range 256 {
			if byte(x) != b {
				values = append(values, byte(x))
			}
		}
		return values
	}
	some := func(b byte) []byte { return []byte{b ^ 1, b ^ 0x80} }
	checkOneByteChanged(t, []impl.Frame{frameOf(2, "hello")}, all)
	checkOneByteChanged(t, []impl.Frame{frameOf(1, "")}, all)
	checkOneByteChanged(t, []impl.Frame{frameOf(1, "12345678"), frameOf(2, ""), frameOf(3, "\x00\x00\x00"), frameOf(1, string(frameBytes(2, "x")))}, all)
	checkOneByteChanged(t, []impl.Frame{frameOf(3, strings.Repeat("\x00", 300)), frameOf(2, "x")}, some)
	checkOneByteChanged(t, []impl.Frame{frameOf(2, strings.Repeat("\xff", impl.MaxPayload))}, some)
}

// A length that is changed has no promise of its own, but what is read is still what the document says of those bytes.
func TestLengthsChanged(t *testing.T) {
	frames := []impl.Frame{frameOf(1, "12345678"), frameOf(2, strings.Repeat("\xc7\x01\x01\x00", 40)), frameOf(3, "")}
	stream := streamOf(frames...)
	isLength, _ := placesOfLengths(frames)
	for i := range stream {
		for x := 0; x < 256 && isLength[i]; x++ {
			bad := slices.Clone(stream)
			bad[i] = byte(x)
			checkCutting(t, fmt.Sprintf("length byte %d made %d", i, x), bad, bad)
		}
	}
}

type failing struct {
	why    string
	front  []byte // does not fail
	shows  byte   // the byte that shows the failure
	failed int
}

func failings() []failing {
	nines := func(b byte) []byte { return lengthBytes(bytes.Repeat([]byte{b}, 9)...) }
	wrong := func(payload string, at int) []byte {
		b := frameBytes(2, payload)
		b[len(b)-4+at] ^= 0x10
		return b[:len(b)-1]
	}
	last := frameBytes(2, "p")
	return []failing{
		{"first 0", nil, 0, 1}, {"first 198", nil, 198, 1}, {"first 200", nil, 200, 1}, {"first 1", nil, 1, 1}, {"first 71", nil, 199 - 128, 1},
		{"second 0", []byte{199}, 0, 2}, {"second 2", []byte{199}, 2, 2}, {"second 199", []byte{199}, 199, 2}, {"second 129", []byte{199}, 129, 2},
		{"kind 0", []byte{199, 1}, 0, 3}, {"kind 4", []byte{199, 1}, 4, 3}, {"kind 129", []byte{199, 1}, 129, 3}, {"kind 255", []byte{199, 1}, 255, 3},
		{"length in two bytes that needs one", lengthBytes(0x80), 0, 4},
		{"length 127 in two bytes", lengthBytes(0xff), 0, 4},
		{"length in three bytes that needs two", lengthBytes(0x80, 0x81), 0, 4},
		{"length in nine bytes that needs eight", nines(0x80)[:11], 0, 4},
		{"length in ten bytes that needs nine", nines(0x81), 0, 4},
		{"tenth byte 2", nines(0x80), 2, 4},
		{"tenth byte 127", nines(0x80), 127, 4},
		{"tenth byte 128", nines(0x80), 128, 4},
		{"tenth byte 255", nines(0xff), 255, 4},
		{"the greatest length", nines(0xff), 1, 4},
		{"2 to the 63", nines(0x80), 1, 4},
		{"2 to the 63, less 1", nines(0xff)[:11], 0x7f, 4},
		{"2 to the 32", lengthBytes(0x80, 0x80, 0x80, 0x80), 0x10, 4},
		{"2 to the 32, and 1", lengthBytes(0x81, 0x80, 0x80, 0x80), 0x10, 4},
		{"2 to the 31", lengthBytes(0x80, 0x80, 0x80, 0x80), 0x08, 4},
		{"a length of MaxPayload and 1", lengthBytes(0xa1), 0x1f, 4},
		{"a length of 4095", lengthBytes(0xff), 0x1f, 4},
		{"a length of 16384", lengthBytes(0x80, 0x80), 1, 4},
		{"the sum's first byte", wrong("p", 0), last[len(last)-1], 5},
		{"the sum's second byte", wrong("p", 1), last[len(last)-1], 5},
		{"the sum's third byte", wrong("p", 2), last[len(last)-1], 5},
		{"the sum's last byte", last[:len(last)-1], last[len(last)-1] ^ 0x10, 5},
		{"a sum of no payload", frameBytes(1, "")[:7], frameBytes(1, "")[7] ^ 0x80, 5},
		{"a sum of zeros", append(lengthBytes(0), 0, 0, 0), 0, 5},
	}
}

func TestFailuresAsSoonAsTheyShow(t *testing.T) {
	ahead := streamOf(frameOf(3, "ahead"), frameOf(1, ""))
	for _, f := range failings() {
		for _, before := range [][]byte{nil, ahead} {
			d, _ := feedAll(t, oneByOne(slices.Concat(before, f.front))...)
			if want := (impl.Decoder{Buf: f.front, Taken: len(before)}); !sameDecoder(d, want) {
				t.Errorf("%s: ahead of it %v", f.why, d)
			}
			want := impl.Decoder{Taken: len(before), Failed: f.failed}
			for _, more := range []string{"", "\xc7", "\x00\x00\x00\x00\x00", string(frameBytes(2, "more"))} {
				chunk := append([]byte{f.shows}, more...)
				if last, frames := impl.Feed(d, chunk); !sameDecoder(last, want) || len(frames) != 0 {
					t.Errorf("%s with %q behind it: %v", f.why, more, last)
				}
				whole, _ := impl.Feed(impl.Decoder{}, slices.Concat(before, f.front, chunk))
				if !sameDecoder(whole, want) {
					t.Errorf("%s at once with %q behind it: %v", f.why, more, whole)
				}
			}
		}
	}
}

func TestTheFirstFailureCounts(t *testing.T) {
	for _, c := range []struct {
		stream []byte
		failed int
	}{
		{[]byte{0, 0, 0, 0x80, 0}, 1}, {[]byte{199, 0, 0, 0x80, 0}, 2}, {[]byte{199, 1, 0, 0x80, 0}, 3}, {[]byte{199, 1, 1, 0x80, 0, 0, 0, 0, 0}, 4},
		{[]byte{200, 1, 1, 0, 0, 0, 0, 0}, 1}, {[]byte{199, 2, 1, 0, 0, 0, 0, 0}, 2}, {[]byte{199, 1, 4, 0, 0, 0, 0, 0}, 3}, {[]byte{199, 1, 1, 0, 0, 0, 0, 0}, 5},
		{[]byte{1, 199}, 1}, {[]byte{199, 199, 1}, 2}, {frameBytes(4, "a right sum"), 3}, {slices.Concat(frameBytes(0, ""), []byte{0}), 3},
	} {
		if d, frames := impl.Feed(impl.Decoder{}, c.stream); !sameDecoder(d, impl.Decoder{Failed: c.failed}) || len(frames) != 0 {
			t.Errorf("%v: %v", c.stream, d)
		}
	}
}

// A length too great for a payload does not fail while it could only be told by bytes that are not there.
func TestLengthsThatAreStillOpen(t *testing.T) {
	for n := range 10 {
		for _, b := range []byte{0x80, 0xff} {
			front := lengthBytes(bytes.Repeat([]byte{b}, n)...)
			if d, frames := impl.Feed(impl.Decoder{}, front); !sameDecoder(d, impl.Decoder{Buf: front}) || len(frames) != 0 {
				t.Errorf("%d bytes of a length: %v", n, d)
			}
		}
	}
	great := lengthBytes(0xa0, 0x1f)
	if d, _ := impl.Feed(impl.Decoder{}, great); !sameDecoder(d, impl.Decoder{Buf: great}) {
		t.Errorf("a length of MaxPayload: %v", d)
	}
}

// Nothing behind a failure is read, not even a frame that is in order.
func TestNothingComesBehindAFailure(t *testing.T) {
	one := frameBytes(2, "hello")
	for _, f := range failings() {
		stream := slices.Concat(one, f.front, []byte{f.shows}, one, one)
		d, frames := impl.Feed(impl.Decoder{}, stream)
		again, none := impl.Feed(d, one)
		if want := (impl.Decoder{Taken: len(one), Failed: f.failed}); !sameDecoder(d, want) || !sameDecoder(again, want) || len(frames) != 1 || len(none) != 0 {
			t.Errorf("%s: %v %d, %v %d", f.why, d, len(frames), again, len(none))
		}
	}
}
