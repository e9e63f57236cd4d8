package impl

import (
	"errors"
	"strconv"
)

const MaxText = 200

const (
	moreFollow = 128
	lowSeven   = 127
	tenth      = 9 // counted from 0
	tenthMost  = 1 // nine bytes take 63 bits, so the tenth has room for one
)

const (
	crcTaps      = 0xEDB88320
	digestStart  = 14695981039346656037
	digestFactor = 1099511628211
)

var errEnds = errors.New("the bytes end too early")
var errTenth = errors.New("the tenth byte is above 1")
var errShorter = errors.New("the varint could be shorter")
var errTooLong = errors.New("the length is above the limit")

// placeError wraps what went wrong with the thing that was read and where it began, so the outermost one has the place that the caller asked for.
type placeError struct {
	thing string
	at    int
	err   error
}

func (e *placeError) Error() string {
	return e.thing + " at " + strconv.Itoa(e.at) + ": " + e.err.Error()
}

func (e *placeError) Unwrap() error {
	return e.err
}

func placeOf(err error) int {
	var place *placeError
	if errors.As(err, &place) {
		return place.at
	}
	return 0
}

func wireCode(err error) int {
	switch {
	case errors.Is(err, errTenth):
		return 2
	case errors.Is(err, errShorter):
		return 3
	case errors.Is(err, errTooLong):
		return 4
	}
	return 1
}

// cursor only reads: the bytes stay the caller's.
type cursor struct {
	bytes []byte
	at    int
}

// next bears any position, as the cursor may be set on one from outside.
func (c *cursor) next() (byte, error) {
	if c.at < 0 || c.at >= len(c.bytes) {
		return 0, errEnds
	}
	b := c.bytes[c.at]
	c.at++
	return b, nil
}

func (c *cursor) uvarint() (uint64, error) {
	begin := c.at
	var v uint64
	for i := 0; ; i++ {
		b, err := c.next()
		if err == nil {
			err = varintByteOk(b, i)
		}
		if err != nil {
			return 0, &placeError{"varint", begin, err}
		}
		v |= uint64(b&lowSeven) << (7 * i)
		if b < moreFollow {
			return v, nil
		}
	}
}

// varintByteOk refuses every tenth byte that says that more follow, which is what ends the reading.
func varintByteOk(b byte, i int) error {
	if i == tenth && b > tenthMost {
		return errTenth
	}
	if i > 0 && b == 0 {
		return errShorter
	}
	return nil
}

func (c *cursor) text(most int) (string, error) {
	begin := c.at
	length, err := c.textLength(most)
	if err != nil {
		return "", &placeError{"text", begin, err}
	}
	from := c.at
	c.at += length
	return string(c.bytes[from:c.at]), nil
}

// textLength compares as uint64, since a length may be greater than any int.
func (c *cursor) textLength(most int) (int, error) {
	length, err := c.uvarint()
	if err != nil {
		return 0, err
	}
	if most < 0 || length > uint64(most) {
		return 0, errTooLong
	}
	if length > uint64(len(c.bytes)-c.at) {
		return 0, errEnds
	}
	return int(length), nil
}

// PutUvarint writes a number.
func PutUvarint(v uint64) []byte {
	return appendUvarint(nil, v)
}

func appendUvarint(b []byte, v uint64) []byte {
	for v >= moreFollow {
		b = append(b, byte(v&lowSeven)|moreFollow)
		v >>= 7
	}
	return append(b, byte(v))
}

// GetUvarint reads a number.
func GetUvarint(b []byte, pos int) (uint64, int, int) {
	c := cursor{b, pos}
	v, err := c.uvarint()
	if err != nil {
		return 0, placeOf(err), wireCode(err)
	}
	return v, c.at, 0
}

// PutText writes a text.
func PutText(s string) []byte {
	return appendText(nil, s)
}

func appendText(b []byte, s string) []byte {
	return append(appendUvarint(b, uint64(len(s))), s...)
}

// GetText reads a text.
func GetText(b []byte, pos int, most int) (string, int, int) {
	c := cursor{b, pos}
	s, err := c.text(most)
	if err != nil {
		return "", placeOf(err), wireCode(err)
	}
	return s, c.at, 0
}

// Crc32 is a sum of 32 bits.
func Crc32(b []byte) uint32 {
	register := ^uint32(0)
	for _, x := range b {
		register ^= uint32(x)
		for range 8 {
			fell := register & 1
			register >>= 1
			if fell == 1 {
				register ^= crcTaps
			}
		}
	}
	return ^register
}

// Digest is a sum of 64 bits.
func Digest(b []byte) uint64 {
	sum := uint64(digestStart)
	for _, x := range b {
		sum ^= uint64(x)
		sum *= digestFactor
	}
	return sum
}
