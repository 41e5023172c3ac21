package impl

import "strings"

const MaxBody = 40000
const FrameBegin = 11
const FrameEnd = 28
const FrameReturn = 13

const BadForm = 1
const BadLong = 2

const maxStream = 1000000

type Framer struct {
	In   bool
	Hold bool
	Buf  string
}

type Frame struct {
	Bad  int
	Body string
}

func Feed(f Framer, s string) (Framer, []Frame) {
	if !isFramer(f) || len(s) > maxStream {
		return Framer{}, nil
	}
	stream := byteStream(s)
	frames := make(chan Frame)
	end := make(chan Framer, 1)
	go func() {
		// Closing is the last act, so the range below ends with the goroutine;
		// end has room for its one framer, so nothing holds the goroutine up.
		defer close(frames)
		end <- cutFrames(f, stream, frames)
	}()
	var list []Frame
	for frame := range frames {
		list = append(list, frame)
	}
	return <-end, list
}

func Wrap(body string) string {
	if !isBody(body) {
		return ""
	}
	return string(rune(FrameBegin)) + body + string(rune(FrameEnd)) + string(rune(FrameReturn))
}

func isFramer(f Framer) bool {
	if !f.In {
		return !f.Hold && f.Buf == ""
	}
	return isBody(f.Buf)
}

func isBody(s string) bool {
	return len(s) <= MaxBody && strings.IndexByte(s, FrameBegin) < 0 && strings.IndexByte(s, FrameEnd) < 0
}

// byteStream has room for the whole text, so that no second goroutine is
// needed to send it while the frames are taken.
func byteStream(s string) <-chan byte {
	stream := make(chan byte, len(s))
	for i := range len(s) {
		stream <- s[i]
	}
	close(stream)
	return stream
}

// cutFrames stands at the label that is the framer's state; where it stands
// when the bytes end is the framer that it answers.
func cutFrames(f Framer, stream <-chan byte, frames chan<- Frame) Framer {
	body := []byte(f.Buf)
	if f.Hold {
		goto held
	}
	if f.In {
		goto inside
	}

outside:
	for b := range stream {
		if b == FrameBegin {
			goto begin
		}
	}
	return Framer{}

begin:
	body = body[:0]

inside:
	for b := range stream {
		switch {
		case b == FrameBegin:
			frames <- Frame{Bad: BadForm}
			goto begin
		case b == FrameEnd:
			goto held
		case len(body) == MaxBody:
			frames <- Frame{Bad: BadLong}
			goto outside
		}
		body = append(body, b)
	}
	return Framer{In: true, Buf: string(body)}

held:
	b, more := <-stream
	if !more {
		return Framer{In: true, Hold: true, Buf: string(body)}
	}
	if b == FrameReturn {
		frames <- Frame{Body: string(body)}
		goto outside
	}
	frames <- Frame{Bad: BadForm}
	// The byte that breaks the frame counts as outside of it and may begin the next.
	if b == FrameBegin {
		goto begin
	}
	goto outside
}
