package tests

import (
	"bytes"
	"encoding/binary"
	"hash/crc32"
	"slices"
	"testing"

	"loop.example/s02772/impl"
)

func frameOf(kind int, payload string) impl.Frame {
	return impl.Frame{Kind: kind, Payload: []byte(payload)}
}

func withSum(b []byte) []byte {
	return binary.BigEndian.AppendUint32(slices.Clone(b), crc32.ChecksumIEEE(b))
}

// frameBytes is the test's own writer, which writes any kind and any length.
func frameBytes(kind byte, payload string) []byte {
	b := binary.AppendUvarint([]byte{199, 1, kind}, uint64(len(payload)))
	return withSum(append(b, payload...))
}

func streamOf(frames ...impl.Frame) []byte {
	var b []byte
	for _, f := range frames {
		b = append(b, frameBytes(byte(f.Kind), string(f.Payload))...)
	}
	return b
}

func sameFrame(a impl.Frame, b impl.Frame) bool {
	return a.Kind == b.Kind && bytes.Equal(a.Payload, b.Payload)
}

func sameFrames(a []impl.Frame, b []impl.Frame) bool {
	return slices.EqualFunc(a, b, sameFrame)
}

func sameDecoder(a impl.Decoder, b impl.Decoder) bool {
	return bytes.Equal(a.Buf, b.Buf) && a.Taken == b.Taken && a.Failed == b.Failed
}

// lengthOf is the number at the front of b, how many bytes it has, and whether it fails or is still open.
func lengthOf(b []byte) (length int, size int, fails bool, open bool) {
	var v uint64
	for i, x := range b {
		if i == 9 && x > 1 || i > 0 && x == 0 {
			return 0, 0, true, false
		}
		v += uint64(x%128) << (7 * i)
		if x < 128 {
			return int(min(v, impl.MaxPayload+1)), i + 1, v > impl.MaxPayload, false
		}
	}
	return 0, 0, false, true
}

// frameAtFront is the test's own reading of one frame: the number of its bytes, 0 when more are needed; or the number of its failure.
func frameAtFront(b []byte) (frame impl.Frame, size int, failed int) {
	if len(b) > 0 && b[0] != 199 {
		return impl.Frame{}, 0, 1
	}
	if len(b) > 1 && b[1] != 1 {
		return impl.Frame{}, 0, 2
	}
	if len(b) > 2 && (b[2] < 1 || b[2] > 3) {
		return impl.Frame{}, 0, 3
	}
	if len(b) < 4 {
		return impl.Frame{}, 0, 0
	}
	length, n, fails, open := lengthOf(b[3:])
	if fails {
		return impl.Frame{}, 0, 4
	}
	end := 3 + n + length
	if open || len(b) < end+4 {
		return impl.Frame{}, 0, 0
	}
	if !bytes.Equal(withSum(b[:end]), b[:end+4]) {
		return impl.Frame{}, 0, 5
	}
	return impl.Frame{Kind: int(b[2]), Payload: b[3+n : end]}, end + 4, 0
}

// readWhole is the test's own reading of a whole stream.
func readWhole(stream []byte) (impl.Decoder, []impl.Frame) {
	var frames []impl.Frame
	taken := 0
	for {
		frame, size, failed := frameAtFront(stream[taken:])
		if failed != 0 {
			return impl.Decoder{Taken: taken, Failed: failed}, frames
		}
		if size == 0 {
			return impl.Decoder{Buf: stream[taken:], Taken: taken}, frames
		}
		frames = append(frames, frame)
		taken += size
	}
}

// feedAll feeds chunk by chunk from the empty decoder, and looks at the bound of Buf after each.
func feedAll(t *testing.T, chunks ...[]byte) (impl.Decoder, []impl.Frame) {
	t.Helper()
	d := impl.Decoder{}
	var frames []impl.Frame
	for _, chunk := range chunks {
		next, some := impl.Feed(d, chunk)
		if len(next.Buf) > impl.MaxPayload+20 {
			t.Errorf("Buf has %d bytes", len(next.Buf))
		}
		d = next
		frames = append(frames, some...)
	}
	return d, frames
}

func oneByOne(stream []byte) [][]byte {
	var chunks [][]byte
	for i := range stream {
		chunks = append(chunks, stream[i:i+1])
	}
	return chunks
}

// diceCut cuts into chunks of up to most bytes, some of them empty.
func diceCut(d *dice, stream []byte, most int) [][]byte {
	var chunks [][]byte
	for len(stream) > 0 {
		n := min(d.below(most+1), len(stream))
		chunks = append(chunks, stream[:n])
		stream = stream[n:]
	}
	return chunks
}

func diceFrame(d *dice) impl.Frame {
	size := []int{0, 1, 2, 3, 8, 8, 126, 127, 128, 129, 300, impl.MaxPayload - 1, impl.MaxPayload}[d.below(13)]
	f := impl.Frame{Kind: 1 + d.below(3)}
	for range size {
		// bytes that a frame begins with, so that one could be found inside another
		f.Payload = append(f.Payload, []byte{199, 1, 2, 0, byte(d.below(256))}[d.below(5)])
	}
	return f
}

type namedStream struct {
	why    string
	stream []byte
}

// lengthBytes is the front of a frame, with a length of any bytes.
func lengthBytes(length ...byte) []byte {
	return append([]byte{199, 1, 2}, length...)
}

// shortStreams go on or fail in every way there is.
func shortStreams() []namedStream {
	one := frameBytes(2, "hello")
	none := frameBytes(1, "")
	wrongSum := frameBytes(3, "ab")
	wrongSum[len(wrongSum)-1] ^= 1
	nines := bytes.Repeat([]byte{0x80}, 9)
	return []namedStream{
		{"no byte", nil},
		{"one frame", one},
		{"a frame without payload", none},
		{"three frames", slices.Concat(one, none, frameBytes(3, "\x00"))},
		{"a frame in a frame", frameBytes(2, string(one))},
		{"a frame and the front of another", slices.Concat(none, one[:7])},
		{"a frame and a first byte", slices.Concat(none, one[:1])},
		{"all but the last byte", one[:len(one)-1]},
		{"another first byte", []byte("\xc8\x01\x02\x00")},
		{"another first byte behind a frame", slices.Concat(one, []byte("xyz"))},
		{"another second byte", []byte("\xc7\x02\x02\x00")},
		{"another second byte behind a frame", slices.Concat(none, []byte("\xc7\xc7"), none)},
		{"kind 0", frameBytes(0, "")},
		{"kind 4", frameBytes(4, "")},
		{"kind 4 behind a frame", slices.Concat(one, frameBytes(4, "x"), one)},
		{"a length that is too long", withSum(lengthBytes(0x80, 0))},
		{"a length of three bytes that is too long", withSum(append(lengthBytes(0x81, 0x80, 0), 'x'))},
		{"a tenth byte of 2", append(lengthBytes(nines...), 2, 9, 9)},
		{"a tenth byte of 128", append(lengthBytes(nines...), 128, 9, 9)},
		{"a tenth byte of 1", append(lengthBytes(nines...), 1, 9, 9)},
		{"a tenth byte of 0", append(lengthBytes(nines...), 0, 9, 9)},
		{"nine bytes of a length", lengthBytes(nines...)},
		{"a length above MaxPayload", lengthBytes(0xa1, 0x1f, 7, 7)},
		{"a length above 32 bits", lengthBytes(0x80, 0x80, 0x80, 0x80, 0x10, 7)},
		{"a length of MaxPayload", lengthBytes(0xa0, 0x1f, 7, 7)},
		{"a wrong sum", wrongSum},
		{"a wrong sum between frames", slices.Concat(none, wrongSum, one)},
		{"a sum the other way round", slices.Concat(one[:9], []byte{one[12], one[11], one[10], one[9]}, none)},
		{"a frame twice and its end", slices.Concat(none, none, none[4:])},
	}
}

// checkBytesApart fills each list, its spare room too, with a mark of its own: where two share memory, one has lost its mark.
func checkBytesApart(t *testing.T, what string, parts ...[]byte) {
	t.Helper()
	for i, p := range parts {
		for k := range p[:cap(p)] {
			p[:cap(p)][k] = byte(i)
		}
	}
	for i, p := range parts {
		if slices.ContainsFunc(p[:cap(p)], func(b byte) bool { return b != byte(i) }) {
			t.Errorf("%s: list %d shares memory", what, i)
		}
	}
}

func roomyBytes(b []byte) []byte {
	return append(make([]byte, 0, len(b)+9), b...)
}

func bytesAsIs(b []byte) string {
	return string(b[:cap(b)])
}
