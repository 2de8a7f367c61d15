package ground

import (
	"cmp"
	"slices"

	"glideslope/api"
	"glideslope/common"
)

// without returns a scene without a plate.
func (x Scene) without(plate int) Scene {
	return Scene{
		Sources: slices.Clone(x.Sources),
		Layers:  slices.Clone(x.Layers),
		Plates:  slices.Delete(slices.Clone(x.Plates), plate, plate+1),
	}
}

// Without returns a scene without a plate.
func Without(x Scene, plate int) (Scene, api.Errno) {
	if e := common.First(CheckScene(x), common.CheckIndex(plate, len(x.Plates))); e != api.OK {
		return Scene{}, e
	}
	return x.without(plate), api.OK
}

// moved returns a plate that is moved to a point.
func (p Plate) moved(to api.Point) Plate {
	p.To = api.Point{X: p.To.X + to.X - p.From.X, Y: p.To.Y + to.Y - p.From.Y}
	p.From = to
	return p
}

// Moved returns a plate that is moved to a point.
func Moved(p Plate, to api.Point) (Plate, api.Errno) {
	if e := common.First(checkPlate(p), checkPoint(to), p.checkMove(to)); e != api.OK {
		return Plate{}, e
	}
	return p.moved(to), api.OK
}

// withMoved returns a scene with a plate, moved to a point, as its last one.
func (x Scene) withMoved(p Plate, to api.Point) Scene {
	plates := make([]Plate, len(x.Plates)+1)
	last := copy(plates, x.Plates)
	plates[last] = p.moved(to)
	x.Plates = plates
	return x
}

// bend returns the bend of a plate at a mark.
func (x Scene) bend(plate int, mark api.Vector) int {
	rest := x.without(plate)
	with, is := x.fields(x.greatest(), mark).needle()
	without, isWithout := rest.fields(rest.greatest(), mark).needle()
	if !is || !isWithout {
		return MaxBend
	}
	return common.Absolute(with - without)
}

// Bend returns the bend of a plate at a mark.
func Bend(x Scene, plate int, mark api.Vector) (int, api.Errno) {
	if e := common.First(CheckScene(x), common.CheckIndex(plate, len(x.Plates)), checkPlace(mark)); e != api.OK {
		return 0, e
	}
	return x.bend(plate, mark), api.OK
}

// bent is the index of a mark, with a bend.
type bent struct {
	mark int
	bend int
}

// compare compares bends.
func (b bent) compare(o bent) int { return cmp.Compare(b.bend, o.bend) }

// share returns the share of a plate along an approach, with its mark.
func (x Scene) share(plate int, marks []api.Vector) bent {
	l := make([]bent, len(marks))
	for i := range len(marks) {
		l[i] = bent{i, x.bend(plate, marks[i])}
	}
	return slices.MaxFunc(l, bent.compare) // the first one of several
}

// Share returns the share of a plate, and its mark.
func Share(x Scene, plate int, marks []api.Vector) (int, int, api.Errno) {
	if e := common.First(CheckScene(x), common.CheckIndex(plate, len(x.Plates)), checkMarks(marks)); e != api.OK {
		return 0, 0, e
	}
	s := x.share(plate, marks)
	return s.bend, s.mark, api.OK
}

// Shares returns the share of each plate.
func Shares(x Scene, marks []api.Vector) ([]int, api.Errno) {
	if e := common.First(CheckScene(x), checkMarks(marks)); e != api.OK {
		return nil, e
	}
	l := make([]int, len(x.Plates))
	for i := range l {
		l[i] = x.share(i, marks).bend
	}
	return l, api.OK
}

// spot is a point with the share of a plate that is moved to it.
type spot struct {
	bent
	at api.Point
}

// Harmful returns the points that are harmful.
func Harmful(x Scene, p Plate, points []api.Point, marks []api.Vector, limit int) ([]Harm, api.Errno) {
	e := common.First(
		CheckScene(x),
		checkPlate(p),
		common.CheckList(points, MaxPoints, checkPoint),
		checkMarks(marks),
		common.Between(limit, 0, MaxBend),
		x.checkRoom(),
		common.First(common.Mapped(points, p.checkMove)...))
	if e != api.OK {
		return nil, e
	}
	var l []Harm
	for _, at := range points {
		s := spot{x.withMoved(p, at).share(len(x.Plates), marks), at}
		if s.bend > limit {
			l = append(l, Harm{s.at, s.mark, s.bend})
		}
	}
	return l, api.OK
}

// CheckHarm returns OK for a harm that is right.
func CheckHarm(x Scene, p Plate, marks []api.Vector, limit int, h Harm) api.Errno {
	e := common.First(
		CheckScene(x),
		checkPlate(p),
		checkMarks(marks),
		common.Between(limit, 0, MaxBend),
		checkPoint(h.At),
		common.CheckIndex(h.Mark, len(marks)),
		x.checkRoom(),
		p.checkMove(h.At))
	if e != api.OK {
		return e
	}
	bend := x.withMoved(p, h.At).bend(len(x.Plates), marks[h.Mark])
	return common.Failed(bend != h.Bend || bend <= limit, api.ErrProof)
}
