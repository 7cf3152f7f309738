package group

import "mintvault/residue"

// ratio is the point (x / z^2, y / z^3): sums of these need no division, so that a long one divides but once, at its end. Nothing has the z 0.
type ratio struct {
	x, y, z residue.Coordinate
}

func (a point) ratio() ratio {
	if a == (point{}) {
		return ratio{}
	}
	return ratio{a.x.Coordinate(), a.y.Coordinate(), residue.Number{1}.Coordinate()}
}

// point needs no case of its own for nothing: the inverse of 0 is 0, and so both coordinates become 0.
func (a ratio) point() point {
	inverse := residue.Coordinates().Inverse(a.z.Number()).Coordinate()
	square := inverse.Times(inverse)
	return point{a.x.Times(square).Number(), a.y.Times(square).Times(inverse).Number()}
}

func (a ratio) nothing() bool { return a.z == residue.Coordinate{} }

func (a ratio) opposite() ratio {
	return ratio{a.x, residue.Coordinate{}.Minus(a.y), a.z}
}

// twice needs no case of its own for nothing: z stays 0. No other point has the y 0, because the order is odd.
func (a ratio) twice() ratio {
	xx, yy := a.x.Times(a.x), a.y.Times(a.y)
	between := double(double(a.x.Times(yy)))
	slope := double(xx).Plus(xx)
	x := slope.Times(slope).Minus(double(between))
	y := slope.Times(between.Minus(x)).Minus(double(double(double(yy.Times(yy)))))
	return ratio{x, y, double(a.y.Times(a.z))}
}

func double(n residue.Coordinate) residue.Coordinate { return n.Plus(n) }

// plus brings both points to one z ahead of holding them against each other. Opposites need no case of their own: they have no run, and so the z becomes 0.
func (a ratio) plus(b ratio) ratio {
	if a.nothing() {
		return b
	}
	if b.nothing() {
		return a
	}
	az, bz := a.z.Times(a.z), b.z.Times(b.z)
	ax, bx := a.x.Times(bz), b.x.Times(az)
	ay, by := a.y.Times(bz).Times(b.z), b.y.Times(az).Times(a.z)
	if ax == bx && ay == by {
		return a.twice()
	}
	run, rise := bx.Minus(ax), by.Minus(ay)
	square := run.Times(run)
	cube, between := square.Times(run), square.Times(ax)
	x := rise.Times(rise).Minus(cube).Minus(double(between))
	y := rise.Times(between.Minus(x)).Minus(cube.Times(ay))
	return ratio{x, y, a.z.Times(b.z).Times(run)}
}
