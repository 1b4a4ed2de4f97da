package member

import (
	"iter"
	"strconv"
	"strings"

	"revetment/api"
	"revetment/block"
	"revetment/number"
)

// Keys of the records of a sparse file.
const (
	sparseMajor = "GNU.sparse.major"
	sparseMinor = "GNU.sparse.minor"
	sparseSize  = "GNU.sparse.realsize"
)

// In a header of Gnu, pieces stand ahead of the size of the file; further
// blocks consist of them. Each list has a byte behind it that tells whether
// another block follows.
const (
	numberSize   = 12
	pieceSize    = 2 * numberSize
	headerPieces = 4
	blockPieces  = 21
	piecesAt     = 386
	moreAt       = piecesAt + headerPieces*pieceSize
	sizeAt       = moreAt + 1
	sizeEnd      = sizeAt + numberSize
)

// withPieces puts the pieces of e into s, the header of e and its data.
func withPieces(s string, e api.Entry) (string, error) {
	first, rest := pieceList(e.Map, headerPieces)
	header, err := block.Seal(s[:piecesAt] + first + octal(e.Size) + s[sizeEnd:api.Block])
	if err != nil {
		return "", err
	}
	var all strings.Builder
	all.WriteString(header)
	for len(rest) > 0 {
		var next string
		next, rest = pieceList(rest, blockPieces)
		all.WriteString(block.Fill(next))
	}
	all.WriteString(s[api.Block:])
	return all.String(), nil
}

// pieceList returns the first pieces of l in a list for most of them, and the
// pieces that are left.
func pieceList(l []api.Piece, most int) (string, []api.Piece) {
	n := min(most, len(l))
	var list strings.Builder
	for _, p := range l[:n] {
		list.WriteString(octal(p.At))
		list.WriteString(octal(p.Size))
	}
	list.WriteString(strings.Repeat("\x00", (most-n)*pieceSize))
	more := byte(0)
	if n < len(l) {
		more = 1
	}
	list.WriteByte(more)
	return list.String(), l[n:]
}

// octal is for the numbers of valid files, each of which fits.
func octal(n int) string {
	digits, _ := number.Octal(n, numberSize)
	return digits
}

// pieceLines returns l as lines of decimal numbers.
func pieceLines(l []api.Piece) string {
	var lines strings.Builder
	line := func(n int) {
		lines.WriteString(strconv.Itoa(n))
		lines.WriteByte('\n')
	}
	line(len(l))
	for _, p := range l {
		line(p.At)
		line(p.Size)
	}
	return lines.String()
}

// eachPiece yields the pieces of a list for most of them, up to one of size 0. It
// yields an error for a piece that cannot be read, and ends.
func eachPiece(list string, most int) iter.Seq2[api.Piece, error] {
	return func(yield func(api.Piece, error) bool) {
		for i := range most {
			p, err := readPiece(list[i*pieceSize:])
			if err == nil && p.Size == 0 {
				return
			}
			if !yield(p, err) || err != nil {
				return
			}
		}
	}
}

func readPiece(s string) (api.Piece, error) {
	at, err := number.Read(s[:numberSize])
	if err != nil {
		return api.Piece{}, err
	}
	size, err := number.Read(s[numberSize:pieceSize])
	if err != nil {
		return api.Piece{}, err
	}
	return api.Piece{At: at, Size: size}, nil
}

// readPieces reads the pieces and the size of a file from its header and the
// blocks behind it.
func (r *reader) readPieces(header string) ([]api.Piece, int, error) {
	var l []api.Piece
	add := func(list string, most int) error {
		for p, err := range eachPiece(list, most) {
			if err != nil {
				return api.ErrRange
			}
			if len(l) == api.MaxMap {
				return api.ErrLimit
			}
			l = append(l, p)
		}
		return nil
	}
	if err := add(header[piecesAt:], headerPieces); err != nil {
		return nil, 0, err
	}
	size, err := number.Read(header[sizeAt:sizeEnd])
	if err != nil {
		return nil, 0, api.ErrRange
	}
	for more := header[moreAt]; more != 0; {
		next, err := r.take(api.Block, api.Block)
		if err != nil {
			return nil, 0, err
		}
		if err := add(next, blockPieces); err != nil {
			return nil, 0, err
		}
		more = next[blockPieces*pieceSize]
	}
	return l, size, nil
}

// readLines returns the pieces of the lines that data begins with, and what is
// behind the block in which these end.
func readLines(data string) ([]api.Piece, string, error) {
	rest := data
	next := func() (int, error) {
		line, behind, ended := strings.Cut(rest, "\n")
		if !ended {
			return 0, api.ErrForm
		}
		rest = behind
		return decimal(line)
	}
	count, err := next()
	if err != nil {
		return nil, "", err
	}
	if count > api.MaxMap {
		return nil, "", api.ErrLimit
	}
	var l []api.Piece
	for range count {
		at, err := next()
		if err != nil {
			return nil, "", err
		}
		size, err := next()
		if err != nil {
			return nil, "", err
		}
		l = append(l, api.Piece{At: at, Size: size})
	}
	fill := block.Pad(len(data) - len(rest))
	if fill > len(rest) {
		return nil, "", api.ErrForm
	}
	return l, rest[fill:], nil
}

// decimal reads 1 to 15 decimal digits.
func decimal(s string) (int, error) {
	if len(s) > maxDigits || strings.Trim(s, "0123456789") != "" {
		return 0, api.ErrForm
	}
	n, err := strconv.Atoi(s)
	if err != nil {
		return 0, api.ErrForm
	}
	return n, nil
}
