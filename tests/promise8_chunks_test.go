package tests

import (
	"bytes"
	"fmt"
	"math"
	"slices"
	"strings"
	"testing"

	"loop.example/s02772/impl"
)

// checkCutting holds a cutting against the test's own reading of the whole.
func checkCutting(t *testing.T, why string, stream []byte, chunks ...[]byte) {
	t.Helper()
	wantD, wantF := readWhole(stream)
	d, frames := feedAll(t, chunks...)
	if !sameDecoder(d, wantD) || !sameFrames(frames, wantF) {
		t.Errorf("%s in %d chunks: %d frames, Taken %d, Failed %d, Buf %v", why, len(chunks), len(frames), d.Taken, d.Failed, d.Buf)
	}
}

func TestEveryCutOfShortStreams(t *testing.T) {
	for _, s := range shortStreams() {
		b := s.stream
		checkCutting(t, s.why, b, b)
		checkCutting(t, s.why, b, oneByOne(b)...)
		for i := range len(b) + 1 {
			checkCutting(t, s.why, b, b[:i], b[i:])
			for k := i; k <= len(b); k++ {
				checkCutting(t, s.why, b, b[:i], b[i:k], b[k:])
			}
		}
	}
}

func TestEmptyChunks(t *testing.T) {
	for _, s := range shortStreams() {
		chunks := [][]byte{nil, {}}
		for _, one := range oneByOne(s.stream) {
			chunks = append(chunks, one, nil, []byte{})
		}
		checkCutting(t, s.why, s.stream, chunks...)
	}
	d, frames := impl.Feed(impl.Decoder{}, nil)
	if !sameDecoder(d, impl.Decoder{}) || len(frames) != 0 {
		t.Errorf("%v %v", d, frames)
	}
}

// damaged changes, takes out or doubles some bytes, or leaves the stream as it is.
func damaged(d *dice, stream []byte) []byte {
	for range d.below(3) {
		if len(stream) == 0 {
			return stream
		}
		at := d.below(len(stream))
		switch d.below(3) {
		case 0:
			stream = slices.Concat(stream[:at], []byte{byte(d.below(256))}, stream[at+1:])
		case 1:
			stream = stream[:at]
		case 2:
			stream = slices.Concat(stream[:at], stream[max(0, at-d.below(9)):])
		}
	}
	return stream
}

func TestCuttingsOfStreams(t *testing.T) {
	d := &dice{state: 81}
	failures := map[int]int{}
	for i := range 400 {
		var frames []impl.Frame
		for range d.below(5) {
			frames = append(frames, diceFrame(d))
		}
		stream := damaged(d, streamOf(frames...))
		whole, _ := readWhole(stream)
		failures[whole.Failed]++
		why := fmt.Sprint("stream ", i)
		checkCutting(t, why, stream, stream)
		for _, most := range []int{3, 20, 500, 5000} {
			checkCutting(t, why, stream, diceCut(d, stream, most)...)
		}
	}
	if failures[0] < 50 || failures[5] < 50 {
		t.Errorf("too little of a kind: %v", failures)
	}
}

// Streams of bytes that frames begin with come further than those of any bytes do.
func TestCuttingsOfNoise(t *testing.T) {
	d := &dice{state: 82}
	letters := []byte{199, 1, 2, 3, 0, 0x80, 0xff, 4}
	failures := map[int]int{}
	for i := range 4000 {
		stream := []byte{199, 1, 2}[:d.below(4)]
		stream = slices.Clone(stream)
		for range d.below(14) {
			stream = append(stream, letters[d.below(len(letters))])
		}
		if d.below(2) == 0 {
			stream = append(frameBytes(1, "n"), stream...)
		}
		whole, _ := readWhole(stream)
		failures[whole.Failed]++
		why := fmt.Sprintf("noise %d, %v", i, stream)
		checkCutting(t, why, stream, stream)
		checkCutting(t, why, stream, oneByOne(stream)...)
		checkCutting(t, why, stream, diceCut(d, stream, 4)...)
	}
	for failed := range 6 {
		if failures[failed] < 20 {
			t.Errorf("too little of a kind: %v", failures)
		}
	}
}

func TestBufAtItsGreatest(t *testing.T) {
	great := frameBytes(3, strings.Repeat("p", impl.MaxPayload))
	stream := slices.Concat(great, great)
	checkCutting(t, "two great frames", stream, oneByOne(stream)...)
	d, frames := feedAll(t, stream[:len(stream)-1])
	if len(d.Buf) != len(great)-1 || d.Taken != len(great) || len(frames) != 1 {
		t.Errorf("Buf has %d bytes, Taken %d", len(d.Buf), d.Taken)
	}
	for _, size := range []int{1, 7, 5000} {
		noise := bytes.Repeat([]byte{199, 1, 3, 0xff, 0xff}, 3000)
		var chunks [][]byte
		for i := 0; i < len(noise); i += size {
			chunks = append(chunks, noise[i:min(i+size, len(noise))])
		}
		checkCutting(t, "noise", noise, chunks...)
	}
}

// A decoder that someone made may have whole frames in its Buf: they are read as if they had come just now.
func TestDecodersThatBeginWithBytes(t *testing.T) {
	for _, s := range shortStreams() {
		want, wantFrames := readWhole(s.stream)
		for _, taken := range []int{0, 1, 1000, -5} {
			want.Taken += taken
			for i := range len(s.stream) + 1 {
				d, frames := impl.Feed(impl.Decoder{Buf: s.stream[:i], Taken: taken}, s.stream[i:])
				if !sameDecoder(d, want) || !sameFrames(frames, wantFrames) {
					t.Errorf("%s with %d bytes in Buf: %v, %d frames", s.why, i, d, len(frames))
				}
			}
			want.Taken -= taken
		}
	}
}

func TestDecodersThatFailedStay(t *testing.T) {
	one := frameBytes(2, "hello")
	for _, failed := range []int{1, 2, 3, 4, 5, 6, -1, 199, math.MaxInt, math.MinInt} {
		for _, taken := range []int{0, 7, -7, math.MaxInt, math.MinInt} {
			for _, buf := range [][]byte{nil, {}, one, one[:5], {0}, make([]byte, 9000)} {
				for _, chunk := range [][]byte{nil, {}, one, one[5:], {0}} {
					was := impl.Decoder{Buf: buf, Taken: taken, Failed: failed}
					d, frames := impl.Feed(was, chunk)
					if !sameDecoder(d, was) || len(frames) != 0 {
						t.Errorf("Failed %d, Taken %d, %d bytes in Buf: %v", failed, taken, len(buf), d)
					}
				}
			}
		}
	}
}

func checkFeedApart(t *testing.T, why string, was impl.Decoder, chunk []byte) {
	t.Helper()
	was.Buf = roomyBytes(was.Buf)
	chunk = roomyBytes(chunk)
	buf, given := bytesAsIs(was.Buf), bytesAsIs(chunk)
	d, frames := impl.Feed(was, chunk)
	again, framesAgain := impl.Feed(was, chunk)
	if bytesAsIs(was.Buf) != buf || bytesAsIs(chunk) != given {
		t.Errorf("%s: Feed wrote into an argument", why)
	}
	all := [][]byte{was.Buf, chunk, d.Buf, again.Buf}
	for _, f := range slices.Concat(frames, framesAgain) {
		all = append(all, f.Payload)
	}
	checkBytesApart(t, why, all...)
	if len(frames) > 0 {
		frames[:cap(frames)][0] = impl.Frame{Kind: 77}
		if framesAgain[0].Kind == 77 {
			t.Errorf("%s: the lists of frames are one", why)
		}
	}
}

func TestFeedGivesNewMemory(t *testing.T) {
	one := frameBytes(2, "hello")
	for _, s := range shortStreams() {
		for i := range len(s.stream) + 1 {
			checkFeedApart(t, s.why, impl.Decoder{Buf: s.stream[:i]}, s.stream[i:])
		}
	}
	for _, failed := range []int{1, -1} {
		checkFeedApart(t, "failed", impl.Decoder{Buf: one, Failed: failed}, one)
		checkFeedApart(t, "failed, no chunk", impl.Decoder{Buf: one, Failed: failed}, nil)
	}
	checkFeedApart(t, "nothing new", impl.Decoder{Buf: one[:5]}, nil)
	checkFeedApart(t, "only new", impl.Decoder{}, one[:5])
	checkFeedApart(t, "frames side by side", impl.Decoder{Buf: one[:5]}, slices.Concat(one[5:], one, one, one[:4]))
}

// The same chunk may be fed again, or another one in its place: the decoder that was handed in still is what it was.
func TestDecodersCanBeFedAgain(t *testing.T) {
	one, two := frameBytes(1, "one"), frameBytes(1, "two")
	start, _ := impl.Feed(impl.Decoder{}, one[:4])
	for range 2 {
		for _, b := range [][]byte{one, two} {
			if d, frames := impl.Feed(start, b[4:]); d.Taken != len(b) || len(frames) != 1 || !bytes.Equal(frames[0].Payload, b[4:7]) {
				t.Errorf("%v %v", d, frames)
			}
		}
	}
}
