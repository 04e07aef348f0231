package disk

import (
	"iter"
	"slices"
)

// blockSize is how many bytes a block takes: blocks of one size keep many short appends as cheap as a long one.
const blockSize = 512

// block is a piece of a text.
type block struct {
	used  int
	bytes [blockSize]byte
}

// file is a name and a text, of which the first sure bytes outlast a crash. All blocks but the last one are full, none is empty.
type file struct {
	name   string
	blocks []block
	sure   int
}

// called is the file's name.
func (f *file) called() string { return f.name }

// size is how many bytes the text has; no file has none.
func (f *file) size() int {
	if f == nil || len(f.blocks) == 0 {
		return 0
	}
	last := len(f.blocks) - 1
	return last*blockSize + f.blocks[last].used
}

// text goes over the text, piece by piece.
func (f *file) text() iter.Seq[[]byte] {
	return func(yield func([]byte) bool) {
		for k := range f.blocks {
			b := &f.blocks[k]
			if !yield(b.bytes[:b.used]) {
				return
			}
		}
	}
}

// read is a copy of the text.
func (f *file) read() []byte {
	b := make([]byte, 0, f.size())
	for piece := range f.text() {
		b = append(b, piece...)
	}
	return b
}

// put lays bytes behind the text.
func (f *file) put(b []byte) {
	for len(b) > 0 {
		if f.size() == len(f.blocks)*blockSize {
			f.blocks = append(f.blocks, block{})
		}
		last := &f.blocks[len(f.blocks)-1]
		n := copy(last.bytes[last.used:], b)
		last.used += n
		b = b[n:]
	}
}

// cut leaves the first n bytes, at most all of them, and makes them sure.
func (f *file) cut(n int) {
	f.blocks = f.blocks[:(n+blockSize-1)/blockSize]
	if last := len(f.blocks) - 1; last >= 0 {
		f.blocks[last].used = n - last*blockSize
	}
	f.sure = n
}

// twin is a file that is the same, and shares nothing with this one.
func (f *file) twin() *file {
	return &file{name: f.name, blocks: slices.Clone(f.blocks), sure: f.sure}
}
