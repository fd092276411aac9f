package fold

// Sizes, in bytes.
const (
	pieceSize  = 64
	digestSize = 32
	keyMost    = 32
)

// folder folds a text that comes bit by bit, so that no long text is ever laid together.
// It is a value: a copy goes on by itself.
type folder struct {
	h     [8]uint32
	piece [pieceSize]byte
	held  int    // so many bytes of piece are there
	n     uint64 // so many bytes of the text are there, those of piece too
}

// begin is a folder for a text behind a key, if there is one.
func begin(key string) folder {
	f := folder{h: start}
	f.h[0] ^= 0x01010020 + 256*uint32(len(key))
	if key != "" {
		copy(f.piece[:], key)
		f.held, f.n = pieceSize, pieceSize
	}
	return f
}

// add goes on with the text. A full piece waits for what comes: it may be the last.
func (f *folder) add(b string) {
	for b != "" {
		if f.held == pieceSize {
			f.press(false)
		}
		k := copy(f.piece[f.held:], b)
		f.held += k
		f.n += uint64(k)
		b = b[k:]
	}
}

// addParts goes on with texts, each behind its length.
func (f *folder) addParts(parts ...string) {
	for _, p := range parts {
		f.add(four(len(p)))
		f.add(p)
	}
}

// end is the digest of the whole text.
func (f *folder) end() string {
	f.press(true)
	var out [digestSize]byte
	for i := range out {
		out[i] = byte(f.h[i/4] >> (i % 4 * 8))
	}
	return string(out[:])
}

// press presses the piece; the next one begins with nothing but zeros.
func (f *folder) press(last bool) {
	f.h = Press(f.h, words(f.piece), f.n, last)
	f.piece = [pieceSize]byte{}
	f.held = 0
}

// words is a piece as words, the lowest byte of each first.
func words(piece [pieceSize]byte) [16]uint32 {
	var m [16]uint32
	for i := range len(m) {
		b := piece[4*i : 4*i+4]
		m[i] = uint32(b[0]) | uint32(b[1])<<8 | uint32(b[2])<<16 | uint32(b[3])<<24
	}
	return m
}
