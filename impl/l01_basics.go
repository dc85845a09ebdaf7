// Package impl is a system for the self-assembly of square tiles.
package impl

import (
	"strconv"
	"strings"
)

// Error codes.
const (
	OK          = 0
	ErrInvalid  = 1
	ErrRange    = 2
	ErrNotFound = 3
	ErrFull     = 4
	ErrState    = 5
	ErrSyntax   = 6
	ErrClash    = 7
	ErrBudget   = 8
	ErrFormat   = 9
	ErrProof    = 10
)

// Directions, clockwise.
const (
	DiNorth = iota
	DiEast
	DiSouth
	DiWest
)

// Limits of names, points and fractions.
const (
	MaxName  = 12
	MaxCoord = 60
	MaxFrac  = 1000000000
)

// noDirection is what Opposite returns for a number that is no direction.
const noDirection = -1

// maxDecimal is the length of the longest decimal form that ReadDecimal accepts.
const maxDecimal = len("-1000000000")

// codeNames has the name of each error code at the index of that code.
var codeNames = [11]string{"ok", "invalid", "range", "notfound", "full", "state", "syntax", "clash", "budget", "format", "proof"}

// dirNames has the name of each direction at the index of that direction.
var dirNames = [4]string{"north", "east", "south", "west"}

// dirSteps has one step in each direction at the index of that direction.
var dirSteps = [4]Point{{0, 1}, {1, 0}, {0, -1}, {-1, 0}}

// Point is a place of the plane.
type Point struct {
	X int64
	Y int64
}

// Frac is a fraction in lowest terms.
type Frac struct {
	Num int64
	Den int64
}

// CodeName returns the name of a code.
func CodeName(code int64) string {
	if code < 0 || code >= int64(len(codeNames)) {
		return ""
	}
	return codeNames[code]
}

// IsName reports whether s is a name.
func IsName(s string) bool {
	if len(s) < 1 || len(s) > MaxName || !isLetter(s[0]) {
		return false
	}
	for i := 1; i < len(s); i++ {
		if !isLetter(s[i]) && !isDigit(s[i]) && s[i] != '_' {
			return false
		}
	}
	return true
}

// isLetter reports whether c is an ASCII letter.
func isLetter(c byte) bool {
	return 'a' <= c && c <= 'z' || 'A' <= c && c <= 'Z'
}

// isDigit reports whether c is an ASCII digit.
func isDigit(c byte) bool {
	return '0' <= c && c <= '9'
}

// Decimal returns the decimal form of a number.
func Decimal(n int64) string {
	return strconv.FormatInt(n, 10)
}

// ReadDecimal returns the number that a decimal form denotes.
func ReadDecimal(s string) (int64, bool) {
	// A failed ParseInt copies its text into the error, so a long text is refused before it.
	if len(s) > maxDecimal {
		return 0, false
	}
	n, err := strconv.ParseInt(s, 10, 64)
	// ParseInt also reads leading zeros, "+1" and "-0", which are no decimal forms.
	if err != nil || !withinFrac(n) || Decimal(n) != s {
		return 0, false
	}
	return n, true
}

// withinFrac reports whether n is within the limits of numbers in texts and fractions.
func withinFrac(n int64) bool {
	return -MaxFrac <= n && n <= MaxFrac
}

// DirName returns the name of a direction.
func DirName(dir int64) string {
	if !isDirection(dir) {
		return ""
	}
	return dirNames[dir]
}

// Opposite returns the opposite direction.
func Opposite(dir int64) int64 {
	switch dir {
	case DiNorth:
		return DiSouth
	case DiEast:
		return DiWest
	case DiSouth:
		return DiNorth
	case DiWest:
		return DiEast
	}
	return noDirection
}

// isDirection reports whether dir is the number of a direction.
func isDirection(dir int64) bool {
	return DiNorth <= dir && dir <= DiWest
}

// ValidPoint reports whether a point is within the limits.
func ValidPoint(p Point) bool {
	return withinCoord(p.X) && withinCoord(p.Y)
}

// withinCoord reports whether n is within the limits of coordinates.
func withinCoord(n int64) bool {
	return -MaxCoord <= n && n <= MaxCoord
}

// LessPoint reports whether a point comes before another one.
func LessPoint(a, b Point) bool {
	return a.Y < b.Y || a.Y == b.Y && a.X < b.X
}

// StepPoint returns the next point in a direction.
func StepPoint(p Point, dir int64) (Point, int64) {
	if !ValidPoint(p) || !isDirection(dir) {
		return Point{}, ErrRange
	}
	next := neighbor(p, dir)
	if !ValidPoint(next) {
		return Point{}, ErrRange
	}
	return next, OK
}

// neighbor returns the point next to p in a direction; it may be beyond the limits.
func neighbor(p Point, dir int64) Point {
	step := dirSteps[dir]
	return Point{p.X + step.X, p.Y + step.Y}
}

// DirBetween returns the direction from a point to one next to it.
func DirBetween(a, b Point) (int64, int64) {
	if !ValidPoint(a) || !ValidPoint(b) {
		return 0, ErrRange
	}
	for dir := int64(DiNorth); dir <= DiWest; dir++ {
		if neighbor(a, dir) == b {
			return dir, OK
		}
	}
	return 0, ErrNotFound
}

// PointText returns the text of a point.
func PointText(p Point) string {
	if !ValidPoint(p) {
		return ""
	}
	return Decimal(p.X) + "," + Decimal(p.Y)
}

// ReadPoint returns the point that a text denotes.
func ReadPoint(text string) (Point, bool) {
	left, right, _ := strings.Cut(text, ",")
	x, okX := ReadDecimal(left)
	y, okY := ReadDecimal(right)
	p := Point{x, y}
	if !okX || !okY || !ValidPoint(p) {
		return Point{}, false
	}
	return p, true
}

// ValidFrac reports whether a fraction is in lowest terms and within the limits.
func ValidFrac(f Frac) bool {
	return f.fits() && commonDivisor(f.Num, f.Den) == 1
}

// MakeFrac returns the fraction of two numbers.
func MakeFrac(num, den int64) (Frac, int64) {
	if !withinFrac(num) || !withinFrac(den) || den == 0 {
		return Frac{}, ErrRange
	}
	return lowestTerms(num, den)
}

// AddFrac returns the sum of two fractions.
func AddFrac(a, b Frac) (Frac, int64) {
	if !ValidFrac(a) || !ValidFrac(b) {
		return Frac{}, ErrInvalid
	}
	return a.plus(b)
}

// MulFrac returns the product of two fractions.
func MulFrac(a, b Frac) (Frac, int64) {
	if !ValidFrac(a) || !ValidFrac(b) {
		return Frac{}, ErrInvalid
	}
	return a.times(b)
}

// DivFrac returns the quotient of two fractions.
func DivFrac(a, b Frac) (Frac, int64) {
	if !ValidFrac(a) || !ValidFrac(b) {
		return Frac{}, ErrInvalid
	}
	if b.Num == 0 {
		return Frac{}, ErrRange
	}
	return a.over(b)
}

// CompareFrac compares two fractions.
func CompareFrac(a, b Frac) (int64, int64) {
	if !ValidFrac(a) || !ValidFrac(b) {
		return 0, ErrInvalid
	}
	return a.compare(b), OK
}

// FracText returns the text of a fraction.
func FracText(f Frac) string {
	if !ValidFrac(f) {
		return ""
	}
	if f.Den == 1 {
		return Decimal(f.Num)
	}
	return Decimal(f.Num) + "/" + Decimal(f.Den)
}

// The following methods are for valid fractions: their products are at most MaxFrac * MaxFrac
// and their sums twice that, which an int64 holds, so no result is lost before it is reduced.

// plus returns the sum of f and g; ErrFull if it does not fit.
func (f Frac) plus(g Frac) (Frac, int64) {
	return lowestTerms(f.Num*g.Den+g.Num*f.Den, f.Den*g.Den)
}

// times returns the product of f and g; ErrFull if it does not fit.
func (f Frac) times(g Frac) (Frac, int64) {
	return lowestTerms(f.Num*g.Num, f.Den*g.Den)
}

// over returns f divided by g, which must not be 0; ErrFull if the quotient does not fit.
func (f Frac) over(g Frac) (Frac, int64) {
	return lowestTerms(f.Num*g.Den, f.Den*g.Num)
}

// compare returns -1, 0 or 1 if f is less than, equal to or greater than g.
func (f Frac) compare(g Frac) int64 {
	left, right := f.Num*g.Den, g.Num*f.Den
	switch {
	case left < right:
		return -1
	case left > right:
		return 1
	}
	return 0
}

// fits reports whether both numbers of f are within the limits, whatever their common divisors.
func (f Frac) fits() bool {
	return withinFrac(f.Num) && 1 <= f.Den && f.Den <= MaxFrac
}

// lowestTerms returns the valid fraction for num divided by den, which must not be 0; ErrFull if there is none.
// Neither number may be the least int64, which has no opposite.
func lowestTerms(num, den int64) (Frac, int64) {
	if den < 0 {
		num, den = -num, -den
	}
	divisor := commonDivisor(num, den)
	f := Frac{num / divisor, den / divisor}
	if !f.fits() {
		return Frac{}, ErrFull
	}
	return f, OK
}

// commonDivisor returns the greatest common divisor of a number that is not the least int64 and of a positive one.
func commonDivisor(num, den int64) int64 {
	a, b := num, den
	if a < 0 {
		a = -a
	}
	for b != 0 {
		a, b = b, a%b
	}
	return a
}
