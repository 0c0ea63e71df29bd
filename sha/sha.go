// Package sha: SHA-512: see ../../shared/doc/01-sha.md.
package sha

const (
	pieceSize  = 128
	lengthSize = 16 // what the number of bits takes up at the end
	sumSize    = 64
)

// Hash takes bytes, piece by piece. A zero Hash is one to which nothing was written.
//
// All of it is kept as values, so that a Hash that is copied goes its own way.
type Hash struct {
	state  [8]uint64 // has no meaning ahead of the first whole piece: see foldPiece
	piece  [pieceSize]byte
	length uint64
}

// New makes a hash to which nothing was written.
func New() *Hash {
	return &Hash{}
}

// Write puts b behind all that was written.
func (h *Hash) Write(b []byte) {
	if h == nil {
		return
	}
	handOn(b, h.take)
}

// Sum tells the sum of all that was written; more may be written behind that.
func (h *Hash) Sum() []byte {
	if h == nil {
		return nil
	}
	// The padding was not written by the caller, so it goes into a copy.
	last := *h
	handOn(padding(h.length), last.take)
	sum := make([]byte, 0, sumSize)
	for _, w := range last.state {
		sum = appendWord(sum, w)
	}
	return sum
}

// Sum tells the sum of b.
func Sum(b []byte) []byte {
	h := New()
	h.Write(b)
	return h.Sum()
}

// handOn gives b to take, which tells how many bytes it took, until nothing is left of b. take must take at least one byte of what is not empty.
func handOn(b []byte, take func([]byte) int) {
	for len(b) > 0 {
		b = b[take(b):]
	}
}

// take fills the open piece from the front of b, and tells how many bytes it took. A full piece is folded at once, so that there is always room for one byte more.
func (h *Hash) take(b []byte) int {
	filled := int(h.length % pieceSize)
	n := copy(h.piece[filled:], b)
	h.length += uint64(n)
	if filled+n == pieceSize {
		h.foldPiece()
	}
	return n
}

// foldPiece folds the full piece into the state. The state at first is laid only here, ahead of the first piece: so a zero Hash needs no beginning.
func (h *Hash) foldPiece() {
	if h.length == pieceSize {
		h.state = firstState
	}
	h.state = fold(h.state, spread(h.piece))
}

// padding is what comes behind length bytes, to fill the last piece.
func padding(length uint64) []byte {
	zeros := (2*pieceSize - lengthSize - 1 - int(length%pieceSize)) % pieceSize
	pad := make([]byte, 1+zeros, 1+zeros+lengthSize)
	pad[0] = 0x80
	// Eight times the length may take more than 64 bits.
	pad = appendWord(pad, length>>61)
	return appendWord(pad, length<<3)
}

// appendWord puts w behind b, the highest byte first.
func appendWord(b []byte, w uint64) []byte {
	for shift := 56; shift >= 0; shift -= 8 {
		b = append(b, byte(w>>shift))
	}
	return b
}
