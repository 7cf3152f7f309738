package residue

// Coordinate is a number of Coordinates while the curve reckons with it, through many steps without an array in between.
type Coordinate words

// Coordinate takes the number as one of Coordinates.
func (n Number) Coordinate() Coordinate { return Coordinate(four(n)) }

// Number is what the steps came to.
func (a Coordinate) Number() Number { return words(a).number() }

// Plus is the sum.
func (a Coordinate) Plus(b Coordinate) Coordinate {
	return Coordinate(Coordinates().sum(words(a), words(b)))
}

// Minus is the difference.
func (a Coordinate) Minus(b Coordinate) Coordinate {
	return Coordinate(Coordinates().difference(words(a), words(b)))
}

// Times is the product.
func (a Coordinate) Times(b Coordinate) Coordinate {
	return Coordinate(Coordinates().product(words(a), words(b)))
}
