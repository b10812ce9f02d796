package rpc

import (
	"dovecote/api"
	"dovecote/sum"
)

const (
	maxFrame   = 1 << 21 // bytes in a frame
	wideLength = 4
	wideSum    = 4
	wideHead   = wideLength + wideSum
)

// frame is b with its length and its sum ahead.
func frame(b []byte) []byte {
	f := make([]byte, 0, wideHead+len(b))
	f = appendNumber(f, len(b), wideLength)
	f = appendNumber(f, int(sum.Sum(0, b)), wideSum)
	return append(f, b...)
}

// unframe is what is in the frame with which b begin, a piece of them; ErrShort, if it is not all there, ErrForm, if it can be none.
func unframe(b []byte) ([]byte, error) {
	if len(b) < wideLength {
		return nil, api.ErrShort
	}
	n := number(b[:wideLength])
	if n > maxFrame {
		return nil, api.ErrForm
	}
	if len(b) < wideHead+n {
		return nil, api.ErrShort
	}
	in := b[wideHead : wideHead+n]
	if number(b[wideLength:wideHead]) != int(sum.Sum(0, in)) {
		return nil, api.ErrForm
	}
	return in, nil
}
