package weather

import "bivouac/api"

// limits are greatest values and temperatures that are accepted. If no
// temperature is, Low is above High.
type limits struct{ api.Limits }

// keeping tells how limits are kept by the skies that an hour can have.
type keeping func(l limits, h api.Hour) bool

// widest are the limits that every sky keeps.
var widest = api.Limits{
	Wind: api.MaxWind,
	Rain: api.MaxRain,
	Temp: api.Span{Low: -api.MaxTemp, High: api.MaxTemp},
}

// surely reports whether each sky that an hour can have keeps the limits.
func (l limits) surely(h api.Hour) bool {
	return h.Wind.High <= l.Wind && h.Rain.High <= l.Rain && isPart(h.Temp, l.Temp)
}

// maybe reports whether some sky that an hour can have keeps the limits.
func (l limits) maybe(h api.Hour) bool {
	return h.Wind.Low <= l.Wind && h.Rain.Low <= l.Rain &&
		max(h.Temp.Low, l.Temp.Low) <= min(h.Temp.High, l.Temp.High)
}

// and returns the limits that a sky keeps if it keeps these and other ones.
func (l limits) and(other api.Limits) limits {
	return limits{api.Limits{
		Wind: min(l.Wind, other.Wind),
		Rain: min(l.Rain, other.Rain),
		Temp: api.Span{Low: max(l.Temp.Low, other.Temp.Low), High: min(l.Temp.High, other.Temp.High)},
	}}
}
