package common

import "glideslope/api"

// CheckPoint returns ErrRange if X or Y of a point is not from -most to most, or OK.
func CheckPoint(p api.Point, most int) api.Errno {
	return First(Between(p.X, -most, most), Between(p.Y, -most, most))
}

// Cross returns the cross product of b less a and p less a, which has the sign of the side of p of the line from a to b.
func Cross(a, b, p api.Point) int {
	return (b.X-a.X)*(p.Y-a.Y) - (b.Y-a.Y)*(p.X-a.X)
}
