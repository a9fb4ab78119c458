package flap

import (
	"wharf/api"
	"wharf/tlv"
)

// Reader reads frames, in whatever pieces they come.
type Reader struct {
	frame      // the one under way
	last  int  // the Seq of the one ahead of it
	begun bool // there is one ahead of it
	err   api.Errno
}

// frame is one that is not whole.
type frame struct {
	read []byte // what has come of it
	size int    // bytes of its Data; 0, as long as the length has not come
}

// New answers a reader that has read nothing (P12.3).
func New() *Reader {
	return &Reader{}
}

// Feed answers the frames that are whole by b (P12.2).
func (r *Reader) Feed(b string) []api.Frame {
	if r == nil {
		return nil
	}
	var frames []api.Frame
	for i := 0; i < len(b) && r.err == api.OK; i++ {
		r.take(b[i])
		if r.isWhole() {
			frames = append(frames, r.end())
		}
	}
	return frames
}

// Err answers what was wrong (P12.3).
func (r *Reader) Err() api.Errno {
	if r == nil {
		return api.ErrNone
	}
	return r.err
}

// Left answers how many bytes were read of a frame that is not whole (P12.3).
func (r *Reader) Left() int {
	if r == nil {
		return 0
	}
	return len(r.read)
}

// take lays c behind what has come. Of a frame that is wrong nothing is told, neither that it is whole nor what is left
// of it, so it is let go.
func (r *Reader) take(c byte) {
	r.read = append(r.read, c)
	r.err = r.look()
	if r.err != api.OK {
		r.frame = frame{}
	}
}

// look answers what is wrong with the byte that came last: all ahead of it was looked at when it came.
func (r *Reader) look() api.Errno {
	n := len(r.read)
	switch {
	case n == 1 && r.read[0] != mark, n == 2 && !isChannel(r.channel()):
		return api.ErrFlap
	case n == 4 && r.begun && r.seq() != Next(r.last):
		return api.ErrOrder
	case n == headSize:
		return r.takeSize()
	}
	return api.OK
}

// end answers the frame that is whole, and begins another one.
func (r *Reader) end() api.Frame {
	f := api.Frame{Channel: r.channel(), Seq: r.seq(), Data: string(r.read[headSize:])}
	r.last, r.begun = f.Seq, true
	r.frame = frame{}
	return f
}

// isWhole tells whether the last byte has come. Ahead of the length there are too few bytes for any size.
func (f *frame) isWhole() bool {
	return len(f.read) == headSize+f.size
}

func (f *frame) channel() int {
	return int(f.read[1])
}

func (f *frame) seq() int {
	return number(f.read[2:4])
}

// takeSize reads the length.
func (f *frame) takeSize() api.Errno {
	f.size = number(f.read[4:headSize])
	if f.size > api.MaxFrame {
		return api.ErrLong
	}
	return api.OK
}

// number answers the number in two bytes, which cannot be wrong.
func number(b []byte) int {
	n, _ := tlv.Num(string(b))
	return int(n)
}
